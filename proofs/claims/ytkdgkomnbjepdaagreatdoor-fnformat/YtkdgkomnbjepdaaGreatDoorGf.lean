import Derived.Test.YtkdgkomnbjepdaaGreatDoorGe
import Derived.Deep.RegionHeld3
import Derived.OrdersHeld
import Derived.Test.YtkdgkomnbjepdaaGreatDoorDg19
namespace Go.Proofs.YtkdgkomnbjepdaaGreatDoor
open Go.RowKit Go.Sort
set_option linter.unusedVariables false
attribute [local go_sem ↓] Go.wp_at_zero Go.wp_at_succ
def CurE (w : World) (cb : Nat) (co : Option Addr) (n cap A : Nat) : Prop := ∃ σ P,Cur w cb co n cap A σ P
theorem CurE.only {P : Nat → Prop} {w w' : World} {cb : Nat} {co : Option Addr} {n cap A : Nat} (h : CurE w cb co n cap A) (hP : OnlyP P w w') (hc : ¬ P cb) (hn : 0 < n → ∀ g o,co = some ⟨g,o,none⟩ → ¬ P g) : CurE w' cb co n cap A := by
 obtain ⟨σ,F,h⟩ := h
 exact ⟨σ,F,h.only hP hc hn⟩
theorem CurE.below {w w' : World} {cb : Nat} {co : Option Addr} {n cap A : Nat} (h : CurE w cb co n cap A) (hb : Below w.heap.size w w') : CurE w' cb co n cap A := by
 obtain ⟨σ,F,h⟩ := h
 exact ⟨σ,F,h.below hb⟩
theorem CurE.mono {w : World} {cb : Nat} {co : Option Addr} {n cap A B : Nat} (h : CurE w cb co n cap A) (hAB : A ≤ B) : CurE w cb co n cap B := by
 obtain ⟨σ,F,h⟩ := h
 exact ⟨σ,F,h.mono hAB⟩
theorem CurE.lt {w : World} {cb : Nat} {co : Option Addr} {n cap A : Nat} (h : CurE w cb co n cap A) : cb < w.heap.size := by
 obtain ⟨σ,F,h⟩ := h
 exact h.lt
theorem CurE.code_lt {w : World} {cb : Nat} {co : Option Addr} {n cap A : Nat} (h : CurE w cb co n cap A) : 0 < n → ∀ g o,co = some ⟨g,o,none⟩ → g < w.heap.size := by
 obtain ⟨σ,F,h⟩ := h
 exact h.code_lt
theorem Dw.ownE {cb : Nat} {X Y : World} {B : Nat} {e : TypeId} {size : Nat} {v : Value} {m : Nat} {xs : List Value} {co : Option Addr} {n cap A : Nat} (hd : Dw cb X Y) (h : CurE X cb co n cap A) (ho : X.ownsRow B e size v m xs) (he : e ≠ 37) : Y.ownsRow B e size v m xs := by
 obtain ⟨σ,F,h⟩ := h
 exact hd.own h ho he
theorem pickE_any (cb : Nat) (co : Option Addr) (n cap A : Nat) (k : Int) (hk : k ≤ 65536) (w : World) (hA : A ≤ 100000000000) (h : CurE w cb co n cap A) :
  Calls Tryz.prog 19 #[.pointer (some ⟨cb,0,none⟩),.int .i64 k] w fun e w' => ∃ r : Nat,e = .returned (.int .i64 (r : Int)) ∧ (r = 0 ∨ (r : Int) < k) ∧ CurE w' cb co n cap (A + 2) ∧ Dw cb w w' := by
 obtain ⟨σ,F,h⟩ := h
 refine (pick_any cb co n cap A k hk w hA h).mono ?_
 rintro e w' ⟨r,h1,h2,h3,h4⟩
 exact ⟨r,h1,h2,⟨_,_,h3⟩,h4⟩
theorem drawIntE_any (cb : Nat) (co : Option Addr) (n cap A : Nat) (w : World) (hA : A ≤ 10000000000) (h : CurE w cb co n cap A) :
  Calls Tryz.prog 34 #[.pointer (some ⟨cb,0,none⟩)] w fun e w' => ∃ r : Int,e = .returned (.int .i64 r) ∧ J64 r ∧ CurE w' cb co n cap (A + 10) ∧ Dw cb w w' := by
 obtain ⟨σ,F,h⟩ := h
 refine (drawInt_any cb co n cap A w hA h).mono ?_
 rintro e w' ⟨r,h1,h2,h3,h4⟩
 exact ⟨r,h1,h2,⟨_,_,h3⟩,h4⟩
def EvEd (w w' : World) (cb : Nat) (co : Option Addr) (n cap A : Nat) (k : Int) (e : Ending) : Prop := ∃ (s : Nat) (z : Int),e = .returned (.agg #[.int .i64 (s : Int),.int .i64 z]) ∧ (s = 0 ∨ (s : Int) < k) ∧ J64 z ∧ CurE w' cb co n cap A ∧ Dw cb w w'
structure EvI (w : World) (cb : Nat) (co : Option Addr) (n cap A : Nat) (HE : Nat) (s z : Int) (X : World) : Prop where
 cur : CurE X cb co n cap A
 dw : Dw cb w X
 r : X.heap[w.heap.size]? = some (.cells #[.int .i64 0,.int .i64 0] 83 (0,0))
 e : X.heap[HE]? = some (.cells #[.int .i64 s,.int .i64 z] 83 (0,0))
 he : w.heap.size < HE
 cb0 : cb < w.heap.size
 g0 : 0 < n → ∀ g o,co = some ⟨g,o,none⟩ → g < w.heap.size
section
variable {w : World} {cb : Nat} {co : Option Addr} {n cap A A' HE : Nat} {s z : Int} {X Y : World}
theorem EvI.draw (h : EvI w cb co n cap A HE s z X) (hd : Dw cb X Y) (hc : CurE Y cb co n cap A') : EvI w cb co n cap A' HE s z Y := ⟨hc,h.dw.trans hd,hd.at h.r (by have := h.cb0; omega),hd.at h.e (by have := h.cb0; have := h.he; omega),h.he,h.cb0,h.g0⟩
theorem ev_start {w1 : World} (h0 : CurE w cb co n cap A') (hd : Dw cb (w.alloc (.cells #[.int .i64 0,.int .i64 0] 83)) w1) (hc : CurE w1 cb co n cap A) : EvI w cb co n cap A w1.heap.size s 0 (w1.alloc (.cells #[.int .i64 s,.int .i64 0] 83)) := by
 have c0 := h0.lt
 have hr : w1.heap[w.heap.size]? = some (.cells #[.int .i64 0,.int .i64 0] 83 (0,0)) := hd.at (heap_alloc_new w _) (by omega)
 exact ⟨hc.below (below1 _ _),(dw_alloc _ _ _).trans (hd.trans (dw_alloc _ _ _)),block_below hr (below1 _ _),heap_alloc_new _ _,lt_of_block hr,c0,h0.code_lt⟩
theorem EvI.set {y : Int} (h : EvI w cb co n cap A HE s z X) : EvI w cb co n cap A HE s y (X.setCell ⟨HE,1,none⟩ (.int .i64 y)) := by
 have hP : OnlyP (fun b => b = HE) X (X.setCell ⟨HE,1,none⟩ (.int .i64 y)) := OnlyP.set _ rfl
 have c0 := h.cb0
 have c1 := h.he
 exact ⟨h.cur.only hP (by omega) (fun hn g o e => by have := h.g0 hn g o e; omega),⟨hP.os.trans h.dw.os,hP.tape.trans h.dw.tape,hP.output.trans h.dw.output,Nat.le_trans h.dw.size hP.size,fun q hq hn => (hP.block q (Nat.lt_of_lt_of_le hq h.dw.size) (by omega)).trans (h.dw.block q hq hn)⟩,(hP.block _ (lt_of_block h.r) (by omega)).trans h.r,by rw [heap_setCell_same X HE 1 _ _ _ h.e]; rfl,c1,c0,h.g0⟩
theorem EvI.ret {k : Int} {s : Nat} (h : EvI w cb co n cap A HE (s : Int) z X) (hs : s = 0 ∨ (s : Int) < k) (hz : J64 z) (hA : A ≤ A') : EvEd w ((X.setCell ⟨w.heap.size,0,none⟩ (.int .i64 (s : Int))).setCell ⟨w.heap.size,1,none⟩ (.int .i64 z)) cb co n cap A' k (.returned (.agg #[.int .i64 (s : Int),.int .i64 z])) := by
 have hP : OnlyP (fun q => q = w.heap.size) X ((X.setCell ⟨w.heap.size,0,none⟩ (.int .i64 (s : Int))).setCell ⟨w.heap.size,1,none⟩ (.int .i64 z)) := OnlyP.trans (OnlyP.set (P := fun q => q = w.heap.size) _ rfl) (OnlyP.set (P := fun q => q = w.heap.size) _ rfl)
 have c0 := h.cb0
 exact ⟨s,z,rfl,hs,hz,(h.cur.only hP (by omega) (fun hn g o e => by have := h.g0 hn g o e; omega)).mono hA,⟨hP.os.trans h.dw.os,hP.tape.trans h.dw.tape,hP.output.trans h.dw.output,Nat.le_trans h.dw.size hP.size,fun q hq hn => (hP.block q (Nat.lt_of_lt_of_le hq h.dw.size) (by omega)).trans (h.dw.block q hq hn)⟩⟩
end
theorem pairR {X : World} {H : Nat} {a b c d : Value} {t : TypeId} (h : X.heap[H]? = some (.cells #[c,d] t (0,0))) : ((X.setCell ⟨H,0,none⟩ a).setCell ⟨H,1,none⟩ b).heap[H]? = some (.cells #[a,b] t (0,0)) := by
 have m1 := heap_setCell_same X H 0 _ _ a h
 have m2 := heap_setCell_same _ H 1 _ _ b m1
 rw [m2]; simp
set_option maxRecDepth 100000 in
set_option maxHeartbeats 16000000 in
theorem drawEvent_any (cb : Nat) (co : Option Addr) (n cap A : Nat) (k : Int) (hk : k ≤ 65536) (w : World) (hA : A ≤ 80000000) (h : CurE w cb co n cap A) :
  Calls Tryz.prog 22 #[.pointer (some ⟨cb,0,none⟩),.int .i64 k] w fun e w' => EvEd w w' cb co n cap (A + 100) k e := by
 have H0 := hid h
 have P := hid (fun B (k : Int) w' (hk : k ≤ 65536) (hB : B ≤ 10000000000) (h' : CurE w' cb co n cap B) => pickE_any cb co n cap B k hk w' (by omega) h')
 have DI := hid (fun B w' (hB : B ≤ 10000000000) (h' : CurE w' cb co n cap B) => drawIntE_any cb co n cap B w' hB h')
 have PK := hid (P.out A k (w.alloc (.cells #[.int .i64 0,.int .i64 0] 83)) hk (by omega) (h.below (below1 _ _)))
 clear h
 go_enter Tryz.func22,Tryz.ntmps22
 go_wp2_with (first
  | (go_at_call 19; have q := PK.out; with_reducible refine q.mono ?_; clear q; rintro e w1 ⟨s,rfl,hr,hc,hd⟩; have HR := hid hr; have S1 := hid (ev_start (s := (s : Int)) H0.out hd hc); have P6 := hid (P.out (A + 2) 6 _ (by omega) (by omega) S1.out.cur); clear hc hd hr)
  | (go_at_call 19; have q := P6.out; with_reducible refine q.mono ?_; clear q; rintro e w2 ⟨r2,rfl,hr,hc,hd⟩; have r26 : r2 < 6 := (by omega); have S2 := hid (S1.out.draw hd hc); obtain ⟨b0,b1,b2,b3⟩ := pair_cells S2.out.e; have bl := lt_of_block S2.out.e; have S2b := hid (S2.out.set (y := (r2 : Int))); have P3 := hid (P.out (A + 2 + 2) 3 _ (by omega) (by omega) S2b.out.cur); clear hc hd hr)
  | (go_at_call 19; have q := P3.out; with_reducible refine q.mono ?_; clear q; rintro e w3 ⟨r3,rfl,hr,hc,hd⟩; have r33 : r3 < 3 := (by omega); clear b0 b1 b2 b3 bl; have S3 := hid (S2b.out.draw hd hc); obtain ⟨b0,b1,b2,b3⟩ := pair_cells S3.out.e; have bl := lt_of_block S3.out.e; obtain ⟨c0,c1,c2,c3⟩ := pair_cells S3.out.r; have cl := lt_of_block S3.out.r; have ne := S3.out.he; have DK := hid (DI.out (A + 2 + 2 + 2) _ (by omega) S3.out.cur); clear hc hd hr)
  | (go_at_call 34; have q := DK.out; with_reducible refine q.mono ?_; clear q; rintro e w4 ⟨z,rfl,hz,hc,hd⟩; clear b0 b1 b2 b3 bl c0 c1 c2 c3 cl ne; have HZ := hid hz; have S4 := hid (S3.out.draw hd hc); obtain ⟨b0,b1,b2,b3⟩ := pair_cells S4.out.e; have bl := lt_of_block S4.out.e; obtain ⟨c0,c1,c2,c3⟩ := pair_cells S4.out.r; have cl := lt_of_block S4.out.r; have ne := S4.out.he; clear hc hd hz))
 ·have S5 := hid (S4.out.set (y := z))
  obtain ⟨v0,v1,_,_⟩ := pair_cells (pairR (a := .int .i64 (s : Int)) (b := .int .i64 z) S5.out.r)
  refine bodyPost_ret (v := .agg #[.int .i64 (s : Int),.int .i64 z]) (by simp [results,Tryz.results22,go_sem,v0,v1]) rfl ?_
  exact S5.out.ret HR.out HZ.out (by omega)
 ·obtain ⟨v0,v1,_,_⟩ := pair_cells (pairR (a := .int .i64 (s : Int)) (b := .int .i64 (r2 : Int)) S3.out.r)
  refine bodyPost_ret (v := .agg #[.int .i64 (s : Int),.int .i64 (r2 : Int)]) (by simp [results,Tryz.results22,go_sem,v0,v1]) rfl ?_
  exact S3.out.ret HR.out (by unfold J64; omega) (by omega)
end Go.Proofs.YtkdgkomnbjepdaaGreatDoor
namespace Go.Proofs.YtkdgkomnbjepdaaGreatDoor
open Go.RowKit Go.Sort
set_option linter.unusedVariables false
attribute [local go_sem ↓] Go.wp_at_zero Go.wp_at_succ
structure ItD where
 kind : Int
 obj : Int
 sig : Int
 val : Int
abbrev itDC (x : ItD) : List Value := [.int .i64 x.kind,.int .i64 x.obj,.int .i64 x.sig,.int .i64 x.val]
def itCells (l : List ItD) : List Value := l.flatMap itDC
theorem itCells_snoc (l : List ItD) (x : ItD) : itCells (l ++ [x]) = itCells l ++ itDC x := by simp [itCells]
def ItOk (m sg : Int) (x : ItD) : Prop := (1 ≤ x.kind ∧ x.kind ≤ 4) ∧ (x.obj = 0 ∨ (0 ≤ x.obj ∧ x.obj < m)) ∧ (0 ≤ x.sig ∧ x.sig ≤ sg) ∧ J64 x.val ∧ (x.kind = 3 → 1 ≤ x.val ∧ x.val ≤ 4) ∧ (x.kind = 4 → 0 ≤ x.val ∧ x.val ≤ 7)
theorem infoIt : (Tryz.prog.info? 86).map (fun i => (i.zero,i.size,i.bytes)) = some (some (.agg #[.int .i64 0,.int .i64 0,.int .i64 0,.int .i64 0]),4,32) := by kernel_rfl
structure ItI (w : World) (cb : Nat) (co : Option Addr) (n cap A : Nat) (sx : Array Value) (v : Value) (its : List ItD) (X : World) : Prop where
 cur : CurE X cb co n cap A
 dw : Dw cb w X
 b : X.heap[w.heap.size]? = some (.cells sx 26 (0,0))
 o : X.ownsRow (w.heap.size + 1) 86 4 v its.length (itCells its)
 cb0 : cb < w.heap.size
 g0 : 0 < n → ∀ g o,co = some ⟨g,o,none⟩ → g < w.heap.size
section
variable {w : World} {cb : Nat} {co : Option Addr} {n cap A A' HE : Nat} {sx : Array Value} {v : Value} {its : List ItD} {s z : Int} {X Y : World}
theorem ItI.draw (h : ItI w cb co n cap A sx v its X) (hd : Dw cb X Y) (hc : CurE Y cb co n cap A') : ItI w cb co n cap A' sx v its Y := ⟨hc,h.dw.trans hd,hd.at h.b (by have := h.cb0; omega),hd.ownE h.cur h.o (by decide),h.cb0,h.g0⟩
theorem ItI.below (h : ItI w cb co n cap A sx v its X) (hb : Below X.heap.size X Y) : ItI w cb co n cap A sx v its Y := ⟨h.cur.below hb,h.dw.trans (Below.toP hb),block_below h.b hb,ownsRow_below h.o hb,h.cb0,h.g0⟩
theorem ItI.mono (h : ItI w cb co n cap A sx v its X) (hA : A ≤ A') : ItI w cb co n cap A' sx v its X := ⟨h.cur.mono hA,h.dw,h.b,h.o,h.cb0,h.g0⟩
theorem ItI.add {v' : Value} {x : ItD} (h : ItI w cb co n cap A sx v its X) (hg : X.grownBy Y v.ownBlock) (ho : Y.ownsRow (w.heap.size + 1) 86 4 v' (its.length + 1) (itCells its ++ itDC x)) : ItI w cb co n cap A sx v' (its ++ [x]) Y := by
 have c0 := h.cb0
 have gP := grP hg
 have g1 : ∀ q,v.ownBlock = some q → w.heap.size + 1 ≤ q := fun q e => (h.o.lt q e).1
 have aP : OnlyP (fun q => w.heap.size + 1 ≤ q) X Y := gP.mono (fun q e => g1 q e)
 exact ⟨h.cur.only aP (by omega) (fun hn g o e => by have := h.g0 hn g o e; omega),⟨aP.os.trans h.dw.os,aP.tape.trans h.dw.tape,aP.output.trans h.dw.output,Nat.le_trans h.dw.size aP.size,fun q hq hn => (aP.block q (Nat.lt_of_lt_of_le hq h.dw.size) (by omega)).trans (h.dw.block q hq hn)⟩,(aP.block _ (lt_of_block h.b) (by omega)).trans h.b,by rw [itCells_snoc]; simpa using ho,c0,h.g0⟩
theorem it_start (h : CurE w cb co n cap A) : ItI w cb co n cap A sx (.slice (some ⟨w.heap.size + 1,0,none⟩) 0 0) [] ((w.alloc (.cells sx 26)).alloc (.cells #[] 86)) := by
 have h2 := heap_alloc_new (w.alloc (.cells sx 26)) (.cells #[] 86)
 simp only [World.size_alloc] at h2
 exact ⟨h.below (below2 _ _ _),(dw_alloc _ _ _).trans (dw_alloc _ _ _),block_below (heap_alloc_new w _) (below1 _ _),⟨rfl,.inr ⟨_,0,_,rfl,Nat.le_refl _,h2,Nat.le_refl _,by decide,rfl,rfl⟩⟩,h.lt,h.code_lt⟩
structure ItE (w : World) (cb : Nat) (co : Option Addr) (n cap A : Nat) (sx : Array Value) (v : Value) (its : List ItD) (HE : Nat) (s z : Int) (X : World) : Prop where
 i : ItI w cb co n cap A sx v its X
 e : X.heap[HE]? = some (.cells #[.int .i64 s,.int .i64 z] 83 (0,0))
 he : w.heap.size < HE
theorem ite_start (h : ItI w cb co n cap A sx v its X) : ItE w cb co n cap A sx v its X.heap.size s z (X.alloc (.cells #[.int .i64 s,.int .i64 z] 83)) := ⟨h.below (below1 _ _),heap_alloc_new _ _,lt_of_block h.b⟩
theorem ItE.draw (h : ItE w cb co n cap A sx v its HE s z X) (hd : Dw cb X Y) (hc : CurE Y cb co n cap A') : ItE w cb co n cap A' sx v its HE s z Y := ⟨h.i.draw hd hc,hd.at h.e (by have := h.i.cb0; have := h.he; omega),h.he⟩
theorem ItE.set {y : Int} (h : ItE w cb co n cap A sx v its HE s z X) : ItE w cb co n cap A sx v its HE y z (X.setCell ⟨HE,0,none⟩ (.int .i64 y)) := by
 have hP : OnlyP (fun b => b = HE) X (X.setCell ⟨HE,0,none⟩ (.int .i64 y)) := OnlyP.set _ rfl
 have c0 := h.i.cb0
 have c1 := h.he
 exact ⟨⟨h.i.cur.only hP (by omega) (fun hn g o e => by have := h.i.g0 hn g o e; omega),⟨hP.os.trans h.i.dw.os,hP.tape.trans h.i.dw.tape,hP.output.trans h.i.dw.output,Nat.le_trans h.i.dw.size hP.size,fun q hq hn => (hP.block q (Nat.lt_of_lt_of_le hq h.i.dw.size) (by omega)).trans (h.i.dw.block q hq hn)⟩,(hP.block _ (lt_of_block h.i.b) (by omega)).trans h.i.b,hP.own h.i.o (fun q e e2 => own_far h.i.o (by decide) h.e (by rw [← e2]; exact e)),c0,h.i.g0⟩,by rw [heap_setCell_same X HE 0 _ _ _ h.e]; rfl,c1⟩
end
theorem items_snoc {m sg : Int} {its : List ItD} {x : ItD} (h : ∀ y,y ∈ its → ItOk m sg y) (hx : ItOk m sg x) : ∀ y,y ∈ its ++ [x] → ItOk m sg y := fun y hy => by
 rcases List.mem_append.1 hy with h1 | h1
 ·exact h y h1
 ·rw [List.mem_singleton.1 h1]; exact hx
theorem itok_pub {m sg sx z : Int} (h : 0 ≤ sx ∧ sx ≤ sg) (hz : J64 z) : ItOk m sg ⟨2,0,sx,z⟩ := ⟨(show (1 : Int) ≤ 2 ∧ (2 : Int) ≤ 4 by decide),.inl rfl,h,hz,(fun e => absurd e (show ¬ (2 : Int) = 3 by decide)),(fun e => absurd e (show ¬ (2 : Int) = 4 by decide))⟩
theorem itok_post {m sg sx z : Int} {r : Nat} (hr : r = 0 ∨ (r : Int) < m) (h : 0 ≤ sx ∧ sx ≤ sg) (hz : J64 z) : ItOk m sg ⟨1,r,sx,z⟩ := ⟨(show (1 : Int) ≤ 1 ∧ (1 : Int) ≤ 4 by decide),(by rcases hr with rfl | hr; exact .inl rfl; exact .inr ⟨Int.natCast_nonneg r,hr⟩),h,hz,(fun e => absurd e (show ¬ (1 : Int) = 3 by decide)),(fun e => absurd e (show ¬ (1 : Int) = 4 by decide))⟩
theorem itok_tick {m sg : Int} {r : Nat} (h : 0 ≤ sg) (hr : r < 4) : ItOk m sg ⟨3,0,0,1 + r⟩ := ⟨(show (1 : Int) ≤ 3 ∧ (3 : Int) ≤ 4 by decide),.inl rfl,⟨Int.le_refl _,h⟩,(show J64 (1 + (r : Int)) by unfold J64; omega),(fun _ => show 1 ≤ 1 + (r : Int) ∧ 1 + (r : Int) ≤ 4 by omega),(fun e => absurd e (show ¬ (3 : Int) = 4 by decide))⟩
theorem itok_run {m sg : Int} {r : Nat} (h : 0 ≤ sg) (hr : r < 8) : ItOk m sg ⟨4,0,0,r⟩ := ⟨(show (1 : Int) ≤ 4 ∧ (4 : Int) ≤ 4 by decide),.inl rfl,⟨Int.le_refl _,h⟩,(show J64 (r : Int) by unfold J64; omega),(fun e => absurd e (show ¬ (4 : Int) = 3 by decide)),(fun _ => show 0 ≤ (r : Int) ∧ (r : Int) ≤ 7 by omega)⟩
theorem ItI.le {w : World} {cb : Nat} {co : Option Addr} {n cap A : Nat} {sx : Array Value} {v : Value} {its : List ItD} {X : World} (h : ItI w cb co n cap A sx v its X) : w.heap.size + 1 ≤ X.heap.size := lt_of_block h.b
def ItemsEd (w w' : World) (cb : Nat) (co : Option Addr) (n cap A : Nat) (m sg : Int) (e : Ending) : Prop := ∃ (v : Value) (its : List ItD),e = .returned v ∧ w'.ownsRow w.heap.size 86 4 v its.length (itCells its) ∧ its.length ≤ 20 ∧ (∀ y,y ∈ its → ItOk m sg y) ∧ CurE w' cb co n cap A ∧ Dw cb w w'
set_option maxRecDepth 100000 in
set_option maxHeartbeats 16000000 in
theorem drawItems_any (cb : Nat) (co : Option Addr) (n cap A : Nat) (sg m oc : Nat) (oa : Option Addr) (tv : Value) (htv : ∃ ao k c,tv = .slice ao k c) (hsg : 1 ≤ sg ∧ sg ≤ 4) (hm : 1 ≤ m ∧ m ≤ 3) (w : World) (hA : A ≤ 1500000) (h : CurE w cb co n cap A) :
  Calls Tryz.prog 9 #[.pointer (some ⟨cb,0,none⟩),.agg #[.int .i64 (sg : Int),.slice oa m oc,tv]] w fun e w' => ItemsEd w w' cb co n cap (A + 4000) m sg e := by
 obtain ⟨ta,tk,tc,rfl⟩ := htv
 have H0 := hid h
 have P := hid (fun B (k : Int) w' (hk : k ≤ 65536) (hB : B ≤ 10000000000) (h' : CurE w' cb co n cap B) => pickE_any cb co n cap B k hk w' (by omega) h')
 have DE := hid (fun B (k : Int) w' (hk : k ≤ 65536) (hB : B ≤ 80000000) (h' : CurE w' cb co n cap B) => drawEvent_any cb co n cap B k hk w' hB h')
 obtain ⟨i0,hi0,hz0,hz1,hz2⟩ := info_parts infoIt
 have S0 := hid (it_start (sx := #[.int .i64 (sg : Int),.slice oa m oc,.slice ta tk tc]) h)
 have P14 := hid (P.out A 14 _ (by omega) (by omega) S0.out.cur)
 clear h
 go_enter Tryz.func9,Tryz.ntmps9
 go_wp2_with (go_at_call 19; have q := P14.out; with_reducible refine q.mono ?_; clear q; rintro e w1 ⟨r,rfl,hr,hc,hd⟩; have r14 : r < 14 := (by omega); have S1 := hid (S0.out.draw hd hc); clear hc hd hr)
 obtain ⟨N,hN⟩ : ∃ N : Nat,(6 : Int) + r = N := ⟨6 + r,by omega⟩
 have N20 : N ≤ 20 := by omega
 rw [hN]
 clear hN r14
 go_loopg [5,7] N (fun mm v i X => ∃ (k : Nat) (its : List ItD),k ≤ N ∧ mm = N - k ∧ i = .int .i64 k ∧ its.length = k ∧ (∀ y,y ∈ its → ItOk m sg y) ∧ ItI w cb co n cap (A + 2 + k * 150) #[.int .i64 (sg : Int),.slice oa m oc,.slice ta tk tc] v its X)
 case atStart => exact ⟨0,[],by omega,by omega,rfl,rfl,(fun y hy => by cases hy),S1.out⟩
 case round =>
  obtain ⟨k,its,hk,rfl,rfl,hlen,hok,hI⟩ := hrel
  have I := hid hI
  have HOK := hid hok
  have HLn := hid hlen
  obtain ⟨la,lc,hlv⟩ := own_any hI.o
  subst hlv
  by_cases hlt : k < N
  ·have ki : (k : Int) < (N : Int) := by omega
   have kl : its.length ≤ 20 := by omega
   obtain ⟨b0,b1,b2,b3⟩ := tcell3 hI.b
   have bl := lt_of_block hI.b
   have QE := hid (DE.out (A + 2 + k * 150) ((sg : Int) + 1) _ (by omega) (by omega) hI.cur)
   clear hI hok hlen
   go_upto_region 7 with (go_at_call 22; have q := QE.out; with_reducible refine q.mono ?_; clear q; intro e w2 hq; unfold EvEd at hq; obtain ⟨s,z,rfl,hs,hz,hc,hd⟩ := hq; have s5 : (s : Int) ≤ sg := (by omega); have HZ := hid hz; have I2 := hid (I.out.draw hd hc); have E2 := hid (ite_start (s := (s : Int)) (z := z) I2.out); clear hs hz hc hd b0 b1 b2 b3 bl)
   obtain ⟨W,hW⟩ : ∃ W,W = w2.alloc (.cells #[.int .i64 (s : Int),.int .i64 z] 83) := ⟨_,rfl⟩
   rw [← hW] at E2 ⊢
   obtain ⟨HE,hHE⟩ : ∃ H,H = w2.heap.size := ⟨_,rfl⟩
   rw [← hHE] at E2 ⊢
   clear hW hHE I2
   obtain ⟨b0,b1,b2,b3⟩ := tcell3 E2.out.i.b
   have bl := lt_of_block E2.out.i.b
   obtain ⟨e0,e1,e2,e3⟩ := pair_cells E2.out.e
   have el := lt_of_block E2.out.e
   have P4 := hid (P.out (A + 2 + k * 150 + 100) 4 _ (by omega) (by omega) E2.out.i.cur)
   go_cut [33] from 14 to 78 (fun c wx => ∃ b : Bool,c = .bool b ∧ ItE w cb co n cap (A + 2 + k * 150 + 100 + 2) #[.int .i64 (sg : Int),.slice oa m oc,.slice ta tk tc] (.slice la its.length lc) its HE (s : Int) z wx)
   case first =>
    by_cases hs : (s : Int) = (sg : Int)
    ·have hsb : ((s : Int) == (sg : Int)) = true := by simp [hs]
     clear hs
     go_wp2_with (go_at_call 19; have q := P4.out; with_reducible refine q.mono ?_; clear q; rintro e w3 ⟨r4,rfl,hr,hc,hd⟩; have E3 := hid (E2.out.draw hd hc); clear hc hd hr)
     all_goals
      go_meet
      exact ⟨_,rfl,E3.out⟩
    ·have hsb : ((s : Int) == (sg : Int)) = false := by simp [hs]
     clear hs
     go_wp2_with fail
     go_meet
     exact ⟨_,rfl,⟨E2.out.i.mono (by omega),E2.out.e,E2.out.he⟩⟩
   case rest =>
    obtain ⟨b,rfl,hE⟩ := hcut
    have E3 := hid hE
    clear hE b0 b1 b2 b3 bl e0 e1 e2 e3 el E2 P4
    go_upto_if 33 with fail
    go_cut [] from 14 to 78 (fun wx => ∃ sx : Int,(0 ≤ sx ∧ sx ≤ sg) ∧ ItE w cb co n cap (A + 2 + k * 150 + 100 + 2) #[.int .i64 (sg : Int),.slice oa m oc,.slice ta tk tc] (.slice la its.length lc) its HE sx z wx)
    case first =>
     obtain ⟨e0,e1,e2,e3⟩ := pair_cells E3.out.e
     have el := lt_of_block E3.out.e
     cases b
     ·go_wp2_with fail
      go_meet
      exact ⟨(s : Int),⟨by omega,s5⟩,E3.out⟩
     ·go_wp2_with fail
      go_meet
      exact ⟨0,⟨by omega,by omega⟩,E3.out.set⟩
    case rest =>
     obtain ⟨sx,hsx,hE⟩ := hcut
     have E4 := hid hE
     have SX := hid hsx
     have P7 := hid (P.out (A + 2 + k * 150 + 100 + 2) 7 _ (by omega) (by omega) hE.i.cur)
     clear hE hsx E3
     go_wp2_with (first
      | (go_at_call 19; have q := P7.out; with_reducible refine q.mono ?_; clear q; rintro e w4 ⟨r7,rfl,hr,hc,hd⟩; have r77 : r7 < 7 := (by omega); have E5 := hid (E4.out.draw hd hc); obtain ⟨e0,e1,e2,e3⟩ := pair_cells E5.out.e; have el := lt_of_block E5.out.e; obtain ⟨b0,b1,b2,b3⟩ := tcell3 E5.out.i.b; have bl := lt_of_block E5.out.i.b; have Q4 := hid (P.out (A + 2 + k * 150 + 100 + 2 + 2) 4 _ (by omega) (by omega) E5.out.i.cur); have Q8 := hid (P.out (A + 2 + k * 150 + 100 + 2 + 2) 8 _ (by omega) (by omega) E5.out.i.cur); have QM := hid (P.out (A + 2 + k * 150 + 100 + 2 + 2) m _ (by omega) (by omega) E5.out.i.cur); clear hc hd hr)
      | (go_at_call 19; have q := Q4.out; with_reducible refine q.mono ?_; clear q; rintro e w5 ⟨r4,rfl,hr,hc,hd⟩; have r44 : r4 < 4 := (by omega); have E6 := hid (E5.out.draw hd hc); clear hc hd hr)
      | (go_at_call 19; have q := Q8.out; with_reducible refine q.mono ?_; clear q; rintro e w5 ⟨r8,rfl,hr,hc,hd⟩; have r88 : r8 < 8 := (by omega); have E6 := hid (E5.out.draw hd hc); clear hc hd hr)
      | (go_at_call 19; have q := QM.out; with_reducible refine q.mono ?_; clear q; rintro e w5 ⟨rm,rfl,hr,hc,hd⟩; have HRM := hid hr; have E6 := hid (E5.out.draw hd hc); clear e0 e1 e2 e3 el; obtain ⟨e0,e1,e2,e3⟩ := pair_cells E6.out.e; have el := lt_of_block E6.out.e; clear hc hd hr)
      | (at_builtin; have IB := hid (E5.out.i.below (below1 w4 (.cells #[.int .i64 2,.int .i64 0,.int .i64 sx,.int .i64 z] 86))); have NW := hid (World.news_of_block (heap_alloc_new w4 (.cells #[.int .i64 2,.int .i64 0,.int .i64 sx,.int .i64 z] 86))); refine wpList_append_lies _ rfl (.tmp 53) (.tmp 59) 27 rfl (w.heap.size + 1) 86 i0 _ 4 32 Tryz.underlying27 hi0 hz0 hz1 hz2 rfl (by decide) (.slice la its.length lc) its.length (itCells its) rfl IB.out.o ⟨w4.heap.size,0,none⟩ 1 1 [.int .i64 2,.int .i64 0,.int .i64 sx,.int .i64 z] rfl rfl NW.out (by intro u hu; simp at hu; rcases hu with rfl | rfl | rfl | rfl <;> rfl) (by omega) (by unfold maxLen; omega) (by omega) IB.out.le (w4.heap.size + 1) (by simp) ?_; intro g6 cap6 w9 hown hgrow hat6 _; have I6 := hid (ItI.add (x := ⟨2,0,sx,z⟩) IB.out hgrow hown); have OKX := hid (itok_pub (m := (m : Int)) SX.out HZ.out); clear hown hgrow hat6 IB NW)
      | (at_builtin; have IB := hid (E6.out.i.below (below1 w5 (.cells #[.int .i64 3,.int .i64 0,.int .i64 0,.int .i64 (1 + (r4 : Int))] 86))); have NW := hid (World.news_of_block (heap_alloc_new w5 (.cells #[.int .i64 3,.int .i64 0,.int .i64 0,.int .i64 (1 + (r4 : Int))] 86))); refine wpList_append_lies _ rfl (.tmp 63) (.tmp 68) 27 rfl (w.heap.size + 1) 86 i0 _ 4 32 Tryz.underlying27 hi0 hz0 hz1 hz2 rfl (by decide) (.slice la its.length lc) its.length (itCells its) rfl IB.out.o ⟨w5.heap.size,0,none⟩ 1 1 [.int .i64 3,.int .i64 0,.int .i64 0,.int .i64 (1 + (r4 : Int))] rfl rfl NW.out (by intro u hu; simp at hu; rcases hu with rfl | rfl | rfl | rfl <;> rfl) (by omega) (by unfold maxLen; omega) (by omega) IB.out.le (w5.heap.size + 1) (by simp) ?_; intro g6 cap6 w9 hown hgrow hat6 _; have I6 := hid (ItI.add (x := ⟨3,0,0,1 + (r4 : Int)⟩) IB.out hgrow hown); have OKX := hid (itok_tick (m := (m : Int)) (sg := (sg : Int)) (by omega) r44); clear hown hgrow hat6 IB NW)
      | (at_builtin; have IB := hid (E6.out.i.below (below1 w5 (.cells #[.int .i64 4,.int .i64 0,.int .i64 0,.int .i64 (r8 : Int)] 86))); have NW := hid (World.news_of_block (heap_alloc_new w5 (.cells #[.int .i64 4,.int .i64 0,.int .i64 0,.int .i64 (r8 : Int)] 86))); refine wpList_append_lies _ rfl (.tmp 73) (.tmp 77) 27 rfl (w.heap.size + 1) 86 i0 _ 4 32 Tryz.underlying27 hi0 hz0 hz1 hz2 rfl (by decide) (.slice la its.length lc) its.length (itCells its) rfl IB.out.o ⟨w5.heap.size,0,none⟩ 1 1 [.int .i64 4,.int .i64 0,.int .i64 0,.int .i64 (r8 : Int)] rfl rfl NW.out (by intro u hu; simp at hu; rcases hu with rfl | rfl | rfl | rfl <;> rfl) (by omega) (by unfold maxLen; omega) (by omega) IB.out.le (w5.heap.size + 1) (by simp) ?_; intro g6 cap6 w9 hown hgrow hat6 _; have I6 := hid (ItI.add (x := ⟨4,0,0,(r8 : Int)⟩) IB.out hgrow hown); have OKX := hid (itok_run (m := (m : Int)) (sg := (sg : Int)) (by omega) r88); clear hown hgrow hat6 IB NW)
      | (at_builtin; have IB := hid (E6.out.i.below (below1 w5 (.cells #[.int .i64 1,.int .i64 (rm : Int),.int .i64 sx,.int .i64 z] 86))); have NW := hid (World.news_of_block (heap_alloc_new w5 (.cells #[.int .i64 1,.int .i64 (rm : Int),.int .i64 sx,.int .i64 z] 86))); refine wpList_append_lies _ rfl (.tmp 42) (.tmp 49) 27 rfl (w.heap.size + 1) 86 i0 _ 4 32 Tryz.underlying27 hi0 hz0 hz1 hz2 rfl (by decide) (.slice la its.length lc) its.length (itCells its) rfl IB.out.o ⟨w5.heap.size,0,none⟩ 1 1 [.int .i64 1,.int .i64 (rm : Int),.int .i64 sx,.int .i64 z] rfl rfl NW.out (by intro u hu; simp at hu; rcases hu with rfl | rfl | rfl | rfl <;> rfl) (by omega) (by unfold maxLen; omega) (by omega) IB.out.le (w5.heap.size + 1) (by simp) ?_; intro g6 cap6 w9 hown hgrow hat6 _; have I6 := hid (ItI.add (x := ⟨1,(rm : Int),sx,z⟩) IB.out hgrow hown); have OKX := hid (itok_post HRM.out SX.out HZ.out); clear hown hgrow hat6 IB NW))
     all_goals
      go_roundg (N - (k + 1))
      case measure => omega
      case rel => exact ⟨k + 1,_,by omega,rfl,by go_num,by simp [HLn.out],items_snoc HOK.out OKX.out,I6.out.mono (by omega)⟩
  ·obtain rfl : k = N := by omega
   clear hI hok hlen
   go_wp2_with fail
   go_ret
   exact ⟨_,its,rfl,ownsRow_base I.out.o (by omega),by rw [HLn.out]; omega,HOK.out,I.out.cur.mono (by omega),I.out.dw⟩
end Go.Proofs.YtkdgkomnbjepdaaGreatDoor
namespace Go.Proofs.YtkdgkomnbjepdaaGreatDoor
open Go.RowKit Go.Sort
set_option linter.unusedVariables false
attribute [local go_sem ↓] Go.wp_at_zero Go.wp_at_succ
theorem SysV.draw {cb : Nat} {co : Option Addr} {n cap A B : Nat} {X Y : World} {y : SysD} {ov tv : Value} (h : SysV X B y ov tv) (hd : Dw cb X Y) (hc : CurE X cb co n cap A) (h0 : cb < B) : SysV Y B y ov tv := by
 obtain ⟨R,h1,h2⟩ := h.o
 exact ⟨⟨R,hd.ownE hc h1 (by decide),h2.keep hd (far_cb h0)⟩,hd.ownE hc h.t (by decide)⟩
theorem SysV.below {B : Nat} {X Y : World} {y : SysD} {ov tv : Value} (h : SysV X B y ov tv) (hb : Below X.heap.size X Y) : SysV Y B y ov tv := by
 obtain ⟨R,h1,h2⟩ := h.o
 exact ⟨⟨R,ownsRow_below h1 hb,h2.keep (Below.toP (P := fun _ => False) hb) far_none⟩,ownsRow_below h.t hb⟩
theorem SysV.base {B C : Nat} {X : World} {y : SysD} {ov tv : Value} (h : SysV X B y ov tv) (hb : C ≤ B) : SysV X C y ov tv := by
 obtain ⟨R,h1,h2⟩ := h.o
 exact ⟨⟨R,ownsRow_base h1 hb,h2.base hb⟩,ownsRow_base h.t hb⟩
theorem SysV.set {B H o : Nat} {X : World} {y : SysD} {ov tv u : Value} {cs : Array Value} (h : SysV X B y ov tv) (hb : X.heap[H]? = some (.cells cs 26 (0,0))) : SysV (X.setCell ⟨H,o,none⟩ u) B y ov tv := by
 obtain ⟨R,h1,h2⟩ := h.o
 exact ⟨⟨R,set_own hb h1 (by decide),h2.keep (OnlyP.set (P := fun q => q = H) _ rfl) (far_box hb kt_sys)⟩,set_own hb h.t (by decide)⟩
def ScrEd (w w' : World) (F : SysD) (e : Ending) : Prop := ∃ (y : SysD) (ov tv iv : Value) (its : List ItD),y = F ∧ e = .returned (.tuple #[.agg #[.int .i64 (y.sg : Int),ov,tv],iv]) ∧ SysV w' w.heap.size y ov tv ∧ SysOk y ∧ w'.ownsRow w.heap.size 86 4 iv its.length (itCells its) ∧ its.length ≤ 20 ∧ (∀ x,x ∈ its → ItOk y.ds.length y.sg x) ∧ Below w.heap.size w w'
theorem cur_new {w : World} {co : Option Addr} {n cap : Nat} {o : Obj} {bs : Nat → Int} (hn : n ≤ 1048576) (h : BytesAt w co n bs) : Cur ((w.alloc o).alloc (.cells #[.slice co n cap,.int .i64 0,.int .i64 0,.int .i64 0] 37)) (w.heap.size + 1) co n cap 0 ⟨bs,0,0⟩ True := by
 have hb := below2 w o (.cells #[.slice co n cap,.int .i64 0,.int .i64 0,.int .i64 0] 37)
 have h2 := heap_alloc_new (w.alloc o) (.cells #[.slice co n cap,.int .i64 0,.int .i64 0,.int .i64 0] 37)
 rw [World.size_alloc] at h2
 refine ⟨⟨0,h2,by simp,by simp,by simp⟩,h.only (Below.toP (P := fun _ => False) hb) (fun _ _ _ _ e => e),fun h0 g o' e => ?_,hn,trivial⟩
 obtain ⟨g',o2,e2,hl,_⟩ := h h0
 rw [e] at e2
 simp at e2
 omega
theorem dw_below {cb : Nat} {w X Y : World} (h : Below w.heap.size w X) (hd : Dw cb X Y) (hc : w.heap.size ≤ cb) : Below w.heap.size w Y := by
 refine h.trans ?_
 exact ⟨hd.os,hd.tape,hd.output,hd.size,fun q hq => hd.block q (Nat.lt_of_lt_of_le hq h.size) (by omega)⟩
theorem cell_farD {w : World} {B o H q : Nat} {v : Value} (h : H ≠ B) : (w.setCell ⟨B,o,none⟩ v).cell? ⟨H,q,none⟩ = w.cell? ⟨H,q,none⟩ := World.cell?_of_block (a := ⟨H,q,none⟩) (Below.heap_setCell _ _ _ _ h)
theorem curE_of {w : World} {cb : Nat} {co : Option Addr} {n cap A : Nat} {σ : Cs} {P : Prop} (h : Cur w cb co n cap A σ P) : CurE w cb co n cap A := ⟨σ,P,h⟩
theorem keep3 {X : World} {H HS : Nat} {a b c p q r : Value} {t : TypeId} (hne : HS ≠ H) (h : X.heap[HS]? = some (.cells #[p,q,r] t (0,0))) : (((X.setCell ⟨H,0,none⟩ a).setCell ⟨H,1,none⟩ b).setCell ⟨H,2,none⟩ c).cell? ⟨HS,0,none⟩ = some p ∧ (((X.setCell ⟨H,0,none⟩ a).setCell ⟨H,1,none⟩ b).setCell ⟨H,2,none⟩ c).cell? ⟨HS,1,none⟩ = some q ∧ (((X.setCell ⟨H,0,none⟩ a).setCell ⟨H,1,none⟩ b).setCell ⟨H,2,none⟩ c).cell? ⟨HS,2,none⟩ = some r := by
 obtain ⟨h0,h1,h2,_⟩ := tcell3 h
 refine ⟨?_,?_,?_⟩
 ·rw [cell_farD hne,cell_farD hne,cell_farD hne]; exact h0
 ·rw [cell_farD hne,cell_farD hne,cell_farD hne]; exact h1
 ·rw [cell_farD hne,cell_farD hne,cell_farD hne]; exact h2
theorem scr_end {w X : World} {y : SysD} {ov tv iv : Value} {its : List ItD} {B : Nat} {F : SysD} (hF : y = F) (hr : X.heap[w.heap.size]? = some (.cells #[.int .i64 0,.slice none 0 0,.slice none 0 0] 26 (0,0))) (hv : SysV X (w.heap.size + 1 + 1) y ov tv) (hy : SysOk y) (ho : X.ownsRow B 86 4 iv its.length (itCells its)) (hB : w.heap.size ≤ B) (hl : its.length ≤ 20) (hk : ∀ x,x ∈ its → ItOk y.ds.length y.sg x) (hb : Below w.heap.size w X) : ScrEd w (((X.setCell ⟨w.heap.size,0,none⟩ (.int .i64 (y.sg : Int))).setCell ⟨w.heap.size,1,none⟩ ov).setCell ⟨w.heap.size,2,none⟩ tv) F (.returned (.tuple #[.agg #[.int .i64 (y.sg : Int),ov,tv],iv])) := by
 have m1 := heap_setCell_same X w.heap.size 0 _ _ (.int .i64 (y.sg : Int)) hr
 have m2 := heap_setCell_same _ w.heap.size 1 _ _ ov m1
 exact ⟨y,ov,tv,iv,its,hF,rfl,(((hv.set hr).set m1).set m2).base (by omega),hy,ownsRow_base (set_own m2 (set_own m1 (set_own hr ho (by decide)) (by decide)) (by decide)) hB,hl,hk,below_set (below_set (below_set hb (Nat.le_refl _)) (Nat.le_refl _)) (Nat.le_refl _)⟩
set_option maxRecDepth 100000 in
set_option maxHeartbeats 16000000 in
theorem drawScripted_any (co : Option Addr) (n cap : Nat) (hn : n ≤ 1048576) (w : World) {bs : Nat → Int} (h : BytesAt w co n bs) :
  Calls Tryz.prog 4 #[.slice co n cap] w fun e w' => ScrEd w w' (systemF n ⟨bs,0,0⟩).1 e := by
 have C0 := hid (cur_new (cap := cap) (o := .cells #[.int .i64 0,.slice none 0 0,.slice none 0 0] 26) hn h)
 have R0 : Hid (((w.alloc (.cells #[.int .i64 0,.slice none 0 0,.slice none 0 0] 26)).alloc (.cells #[.slice co n cap,.int .i64 0,.int .i64 0,.int .i64 0] 37)).heap[w.heap.size]? = some (.cells #[.int .i64 0,.slice none 0 0,.slice none 0 0] 26 (0,0))) := hid (block_below (heap_alloc_new w _) (below1 _ _))
 have B0 := hid (below2 w (.cells #[.int .i64 0,.slice none 0 0,.slice none 0 0] 26) (.cells #[.slice co n cap,.int .i64 0,.int .i64 0,.int .i64 0] 37))
 have DS := hid (drawSystem_any (w.heap.size + 1) co n cap 0 _ (by omega) C0.out)
 have DI := hid (fun A (sg m oc : Nat) oa tv htv hsg hm w' hA h' => drawItems_any (w.heap.size + 1) co n cap A sg m oc oa tv htv hsg hm w' hA h')
 clear h
 go_enter Tryz.func4,Tryz.ntmps4
 go_upto_region 3 with (go_at_call 8; have q := DS.out; with_reducible refine q.mono ?_; clear q; intro e w3 hq; unfold SysEd at hq; obtain ⟨y,ov,tv,rfl,hv,hok,hc,hd⟩ := hq; obtain ⟨R,hR,_⟩ := hv.o; obtain ⟨oa,oc,ho⟩ := own_any hR; subst ho; obtain ⟨ta,tc,ht⟩ := own_any hv.t; subst ht; have FF := hid hc.fact.2; have C3 := hid (curE_of hc); have D3 := hid hd; have V3 := hid hv; have OK := hid hok; clear hv hok hc hd hR)
 obtain ⟨W,hW⟩ : ∃ W,W = w3.alloc (.cells #[.int .i64 (y.sg : Int),.slice oa y.ds.length oc,.slice ta y.tms.length tc] 26) := ⟨_,rfl⟩
 have bW : Below w3.heap.size w3 W := by rw [hW]; exact below1 _ _
 have SW : Hid (W.heap[w3.heap.size]? = some (.cells #[.int .i64 (y.sg : Int),.slice oa y.ds.length oc,.slice ta y.tms.length tc] 26 (0,0))) := hid (by rw [hW]; exact heap_alloc_new _ _)
 have l3 : w.heap.size + 1 < w3.heap.size := C3.out.lt
 have CW := hid ((C3.out.below bW).below ((Below.refl _ _).drew))
 have RW : Hid (W.drew.heap[w.heap.size]? = _) := hid (block_below (block_below (D3.out.at R0.out (by omega)) bW) ((Below.refl _ _).drew))
 have VW : Hid (SysV W.drew (w.heap.size + 1 + 1) y (.slice oa y.ds.length oc) (.slice ta y.tms.length tc)) := hid (((V3.out.below bW).below ((Below.refl W.heap.size W).drew)).base (by simp))
 have BW := hid (((dw_below B0.out D3.out (by omega)).trans (bW.mono (by omega))).drew)
 have SD := hid (block_below SW.out ((Below.refl W.heap.size W).drew))
 rw [← hW]
 obtain ⟨HS,hHS⟩ : ∃ H,H = w3.heap.size := ⟨_,rfl⟩
 rw [← hHS] at SW SD l3 ⊢
 have DIW := hid (DI.out 400000 y.sg y.ds.length oc oa (.slice ta y.tms.length tc) ⟨_,_,_,rfl⟩ OK.out.sg OK.out.n W.drew (by omega) (by simpa using CW.out))
 obtain ⟨q0,q1,q2,qf⟩ := tcell3 SW.out
 have ql := lt_of_block SW.out
 have b3 : w.heap.size + 1 + 1 ≤ W.heap.size := by omega
 clear hW bW hHS DS
 go_region_held3 (fun X => X.cell? ⟨HS,0,none⟩ = some (.int .i64 (y.sg : Int)) ∧ X.cell? ⟨HS,1,none⟩ = some (.slice oa y.ds.length oc) ∧ X.cell? ⟨HS,2,none⟩ = some (.slice ta y.tms.length tc)) (first | (with_reducible exact SX.out) | (with_reducible exact SY.out) | go_keep)
  (first | (go_at_call 9; have q := DIW.out; with_reducible refine q.mono ?_; clear q; intro e w5 hq; unfold ItemsEd at hq; obtain ⟨iv,its,rfl,ho,hl,hok,hc,hd⟩ := hq; obtain ⟨ia,ic,e5⟩ := own_any ho; subst e5; have S5 := hid (hd.at SD.out (by omega)); have SX := hid (And.intro (tcell3 S5.out).1 (And.intro (tcell3 S5.out).2.1 (tcell3 S5.out).2.2.1)); have SY := hid (keep3 (H := w.heap.size) (a := .int .i64 (y.sg : Int)) (b := .slice oa y.ds.length oc) (c := .slice ta y.tms.length tc) (by omega) S5.out); have R5 := hid (hd.at RW.out (by omega)); have V5 := hid (SysV.draw VW.out hd CW.out (by omega)); have O5 := hid ho; have L5 := hid hl; have K5 := hid hok; have B5 := hid (dw_below BW.out hd (by omega)); obtain ⟨z0,z1,z2,zf⟩ := tcell3 R5.out; have zl := lt_of_block R5.out; clear ho hl hok hc hd))
 all_goals
  go_wp2_with fail
  obtain ⟨v0,v1,v2,_⟩ := tcell3 (triR (a := .int .i64 (y.sg : Int)) (b := .slice oa y.ds.length oc) (c := .slice ta y.tms.length tc) R5.out)
  refine bodyPost_ret (v := .tuple #[.agg #[.int .i64 (y.sg : Int),.slice oa y.ds.length oc,.slice ta y.tms.length tc],.slice ia its.length ic]) (by simp [results,Tryz.results4,go_sem,v0,v1,v2]) rfl ?_
  exact scr_end FF.out R5.out V5.out OK.out O5.out (by have := l3; simp; omega) L5.out K5.out B5.out
end Go.Proofs.YtkdgkomnbjepdaaGreatDoor

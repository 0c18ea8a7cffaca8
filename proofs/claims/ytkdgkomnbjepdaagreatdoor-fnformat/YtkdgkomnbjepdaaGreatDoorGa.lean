import Derived.Test.YtkdgkomnbjepdaaGreatDoorOa
import Derived.Test.YtkdgkomnbjepdaaGreatDoorP1
import Derived.Laws.OwnMore
import Derived.Deep.AppendLies
import Derived.Deep.LoopGhost
import Derived.Deep.DeepCutAuto
import Derived.Deep.RegionHeld3
import Derived.Deep.RegionLaw
import Derived.Deep.RegionWith
import Derived.BigRegion
import Derived.BigQuiet
import Derived.Test.YtkdgkomnbjepdaaGreatDoorNa
namespace Go.Proofs.YtkdgkomnbjepdaaGreatDoor
open Go.RowKit Go.Sort
set_option linter.unusedVariables false
attribute [local go_sem ↓] Go.wp_at_zero Go.wp_at_succ
theorem ownsRow_base {w : World} {b1 b2 : Nat} {e : TypeId} {size : Nat} {v : Value} {n : Nat} {xs : List Value} (h : w.ownsRow b1 e size v n xs) (hb : b2 ≤ b1) : w.ownsRow b2 e size v n xs := by
 refine ⟨h.1,?_⟩
 rcases h.2 with h | ⟨g,cap,cur,h1,h2,h3⟩
 ·exact .inl h
 ·exact .inr ⟨g,cap,cur,h1,by omega,h3⟩
theorem own_far {w : World} {B : Nat} {e : TypeId} {size : Nat} {v : Value} {n : Nat} {xs : List Value} (h : w.ownsRow B e size v n xs) {H : Nat} {cs : Array Value} {t : TypeId} (ht : t ≠ e) (hH : w.heap[H]? = some (.cells cs t (0,0))) : v.ownBlock ≠ some H := by
 intro e2
 rcases h.2 with ⟨h0,_⟩ | ⟨g,cap,cur,h1,h2,h3,h4⟩
 ·rw [h0] at e2; cases e2
 ·rw [h1] at e2
  simp [Value.ownBlock] at e2
  subst e2
  rw [hH] at h3
  simp at h3
  exact ht h3.2
theorem ownsRow_eqb {w w' : World} {B : Nat} {e : TypeId} {size : Nat} {v : Value} {n : Nat} {xs : List Value} (h : w.ownsRow B e size v n xs) (hb : ∀ b,b < w.heap.size → v.ownBlock = some b → w'.heap[b]? = w.heap[b]?) : w'.ownsRow B e size v n xs := by
 refine ⟨h.1,?_⟩
 rcases h.2 with h0 | ⟨g,cap,cur,h1,h2,h3,h4⟩
 ·exact .inl h0
 ·exact .inr ⟨g,cap,cur,h1,h2,(hb g (lt_of_block h3) (by rw [h1]; rfl)).trans h3,h4⟩
def J64 (x : Int) : Prop := -9223372036854775808 ≤ x ∧ x ≤ 9223372036854775807
theorem own_news {w : World} {B g n cap size : Nat} {e : TypeId} {xs : List Value} (h : w.ownsRow B e size (.slice (some ⟨g,0,none⟩) n cap) n xs) : ∀ j u,xs[j]? = some u → w.cell? ((⟨g,0,none⟩ : Addr).add j) = some u := by
 intro j u hj
 have hj' := (List.getElem?_eq_some_iff.1 hj).1
 rw [show (⟨g,0,none⟩ : Addr).add j = ⟨g,j,none⟩ by unfold Addr.add; split <;> simp_all,World.ownsRow.cellAt h j (by rw [← h.1]; exact hj'),hj]
theorem own_any {w : World} {B : Nat} {e : TypeId} {size : Nat} {v : Value} {n : Nat} {xs : List Value} (h : w.ownsRow B e size v n xs) : ∃ ao c,v = .slice ao n c := by
 rcases h.2 with ⟨e,rfl⟩ | ⟨g,cap,cur,e,_⟩
 ·exact ⟨none,0,e⟩
 ·exact ⟨_,cap,e⟩
structure Only (v : Value) (w w' : World) : Prop where
 os : w'.os = w.os
 tape : w'.tape = w.tape
 output : w'.output = w.output
 size : w'.heap.size = w.heap.size
 block : ∀ q,v.ownBlock ≠ some q → w'.heap[q]? = w.heap[q]?
structure OnlyP (P : Nat → Prop) (w w' : World) : Prop where
 os : w'.os = w.os
 tape : w'.tape = w.tape
 output : w'.output = w.output
 size : w.heap.size ≤ w'.heap.size
 block : ∀ q,q < w.heap.size → ¬ P q → w'.heap[q]? = w.heap[q]?
theorem OnlyP.refl (P : Nat → Prop) (w : World) : OnlyP P w w := ⟨rfl,rfl,rfl,Nat.le_refl _,fun _ _ _ => rfl⟩
theorem OnlyP.trans {P : Nat → Prop} {a b c : World} (h : OnlyP P a b) (k : OnlyP P b c) : OnlyP P a c := ⟨k.os.trans h.os,k.tape.trans h.tape,k.output.trans h.output,Nat.le_trans h.size k.size,fun q hq hn => (k.block q (Nat.lt_of_lt_of_le hq h.size) hn).trans (h.block q hq hn)⟩
theorem OnlyP.mono {P Q : Nat → Prop} {a b : World} (h : OnlyP P a b) (hPQ : ∀ q,P q → Q q) : OnlyP Q a b := ⟨h.os,h.tape,h.output,h.size,fun q hq hn => h.block q hq (fun x => hn (hPQ q x))⟩
theorem Below.toP {P : Nat → Prop} {a b : World} (h : Below a.heap.size a b) : OnlyP P a b := ⟨h.os,h.tape,h.output,h.size,fun q hq _ => h.block q hq⟩
theorem OnlyP.set {P : Nat → Prop} {w : World} {g o : Nat} (u : Value) (hP : P g) : OnlyP P w (w.setCell ⟨g,o,none⟩ u) := ⟨rfl,rfl,rfl,by simp,fun q _ hn => Below.heap_setCell _ _ _ _ (fun e => hn (by rw [e]; exact hP))⟩
theorem OnlyP.own {P : Nat → Prop} {w w' : World} {B : Nat} {e : TypeId} {size : Nat} {v : Value} {n : Nat} {xs : List Value} (h : OnlyP P w w') (ho : w.ownsRow B e size v n xs) (hn : ∀ b,v.ownBlock = some b → ¬ P b) : w'.ownsRow B e size v n xs := ownsRow_eqb ho (fun b hb e => h.block b hb (hn b e))
end Go.Proofs.YtkdgkomnbjepdaaGreatDoor
namespace Go.Proofs.YtkdgkomnbjepdaaGreatDoor
open Go.RowKit Go.Sort
set_option linter.unusedVariables false
attribute [local go_sem ↓] Go.wp_at_zero Go.wp_at_succ
theorem frz_of {w : World} {H : Nat} {cs : Array Value} {t : TypeId} (h : w.heap[H]? = some (.cells cs t (0,0))) : ∀ o,w.frozen? ⟨H,o,none⟩ = false := fun o => frozen_of_row w H o cs t h
structure Cs where
 bs : Nat → Int
 i : Nat
 sd : Int
def byteF (n : Nat) (σ : Cs) : Int × Cs :=
 if (σ.i : Int) + 1 > 150 + 40 * (n : Int) then (0,⟨σ.bs,σ.i + 1,σ.sd⟩)
 else if (σ.i : Int) + 1 > n then ((σ.sd * 1103515245 + 12345) % 2147483648 / 65536 % 256,⟨σ.bs,σ.i + 1,(σ.sd * 1103515245 + 12345) % 2147483648⟩)
 else (σ.bs σ.i,⟨σ.bs,σ.i + 1,(σ.sd * 31 + σ.bs σ.i + 7) % 2147483648⟩)
def pickF (n : Nat) (k : Int) (σ : Cs) : Nat × Cs :=
 if k ≤ 1 then (0,σ)
 else if k ≤ 256 then (((byteF n σ).1 % k).toNat,(byteF n σ).2)
 else ((((byteF n σ).1 * 256 + (byteF n (byteF n σ).2).1) % k).toNat,(byteF n (byteF n σ).2).2)
def BytesAt (w : World) (co : Option Addr) (n : Nat) (bs : Nat → Int) : Prop := 0 < n → ∃ g off,co = some ⟨g,off,none⟩ ∧ g < w.heap.size ∧ ∀ i,i < n → w.cell? ⟨g,off + i,none⟩ = some (.int .u8 (bs i)) ∧ 0 ≤ bs i ∧ bs i < 256
structure Cur (w : World) (cb : Nat) (co : Option Addr) (n cap : Nat) (A : Nat) (σ : Cs) (P : Prop) : Prop where
 ex : ∃ room : Int,w.heap[cb]? = some (.cells #[.slice co n cap,.int .i64 (σ.i : Int),.int .i64 room,.int .i64 σ.sd] 37 (0,0)) ∧ (σ.i : Int) ≤ A ∧ 0 ≤ σ.sd ∧ σ.sd < 2147483648
 by' : BytesAt w co n σ.bs
 off : 0 < n → ∀ g o,co = some ⟨g,o,none⟩ → g ≠ cb
 n1 : n ≤ 1048576
 fact : P
theorem BytesAt.only {P : Nat → Prop} {w w' : World} {co : Option Addr} {n : Nat} {bs : Nat → Int} (h : BytesAt w co n bs) (hP : OnlyP P w w') (hn : 0 < n → ∀ g o,co = some ⟨g,o,none⟩ → ¬ P g) : BytesAt w' co n bs := fun h0 => by
 obtain ⟨g,off,e,hl,hc⟩ := h h0
 refine ⟨g,off,e,Nat.lt_of_lt_of_le hl hP.size,fun i hi => ?_⟩
 obtain ⟨h1,h2⟩ := hc i hi
 refine ⟨?_,h2⟩
 have hk := hP.block g hl (hn h0 g off e)
 rw [← h1]
 simp only [World.cell?,hk]
theorem Cur.with {w : World} {cb : Nat} {co : Option Addr} {n cap A : Nat} {σ : Cs} {P Q : Prop} (h : Cur w cb co n cap A σ P) (hq : Q) : Cur w cb co n cap A σ Q := ⟨h.ex,h.by',h.off,h.n1,hq⟩
theorem Cur.only {P : Nat → Prop} {w w' : World} {cb : Nat} {co : Option Addr} {n cap A : Nat} {σ : Cs} {F : Prop} (h : Cur w cb co n cap A σ F) (hP : OnlyP P w w') (hc : ¬ P cb) (hn : 0 < n → ∀ g o,co = some ⟨g,o,none⟩ → ¬ P g) : Cur w' cb co n cap A σ F := by
 obtain ⟨r,hb,h2⟩ := h.ex
 exact ⟨⟨r,(hP.block cb (lt_of_block hb) hc).trans hb,h2⟩,h.by'.only hP hn,h.off,h.n1,h.fact⟩
theorem Cur.below {w w' : World} {cb : Nat} {co : Option Addr} {n cap A : Nat} {σ : Cs} {F : Prop} (h : Cur w cb co n cap A σ F) (hb : Below w.heap.size w w') : Cur w' cb co n cap A σ F := h.only (Below.toP (P := fun _ => False) hb) (fun e => e) (fun _ _ _ _ e => e)
theorem Cur.mono {w : World} {cb : Nat} {co : Option Addr} {n cap A B : Nat} {σ : Cs} {F : Prop} (h : Cur w cb co n cap A σ F) (hAB : A ≤ B) : Cur w cb co n cap B σ F := by
 obtain ⟨r,hb,h1,h2⟩ := h.ex
 exact ⟨⟨r,hb,by omega,h2⟩,h.by',h.off,h.n1,h.fact⟩
theorem Cur.lt {w : World} {cb : Nat} {co : Option Addr} {n cap A : Nat} {σ : Cs} {F : Prop} (h : Cur w cb co n cap A σ F) : cb < w.heap.size := by
 obtain ⟨r,hb,_⟩ := h.ex
 exact lt_of_block hb
theorem Cur.code_lt {w : World} {cb : Nat} {co : Option Addr} {n cap A : Nat} {σ : Cs} {F : Prop} (h : Cur w cb co n cap A σ F) : 0 < n → ∀ g o,co = some ⟨g,o,none⟩ → g < w.heap.size := fun h0 g o e => by
 obtain ⟨g',o',e',hl,_⟩ := h.by' h0
 rw [e] at e'
 simp at e'
 omega
abbrev Dw (cb : Nat) (w w' : World) : Prop := OnlyP (fun b => b = cb) w w'
theorem cur_set {w X : World} {cb : Nat} {co : Option Addr} {n cap A : Nat} {σ : Cs} {F : Prop} {a : Nat} {r s : Int} (h : Cur w cb co n cap A σ F) (hP : Dw cb w X) (hb : X.heap[cb]? = some (.cells #[.slice co n cap,.int .i64 (a : Int),.int .i64 r,.int .i64 s] 37 (0,0))) (h1 : (a : Int) ≤ A + 1) (h2 : 0 ≤ s ∧ s < 2147483648) {Q : Prop} (hq : Q) : Cur X cb co n cap (A + 1) ⟨σ.bs,a,s⟩ Q :=
 ⟨⟨r,hb,by simpa using h1,h2⟩,h.by'.only hP (fun h0 g o e => h.off h0 g o e),h.off,h.n1,hq⟩
set_option maxRecDepth 100000 in
set_option maxHeartbeats 8000000 in
theorem byte_any (cb : Nat) (co : Option Addr) (n cap A : Nat) {σ : Cs} {P : Prop} (w : World) (hA : A ≤ 1000000000000) (h : Cur w cb co n cap A σ P) :
  Calls Tryz.prog 32 #[.pointer (some ⟨cb,0,none⟩)] w fun e w' => ∃ r : Int,e = .returned (.int .i64 r) ∧ (0 ≤ r ∧ r < 256) ∧ Cur w' cb co n cap (A + 1) (byteF n σ).2 (P ∧ r = (byteF n σ).1) ∧ Dw cb w w' := by
 obtain ⟨bs,i,sd⟩ := σ
 obtain ⟨rm,hb,haA,hs0,hs1⟩ := h.ex
 simp only at hb haA hs0 hs1
 obtain ⟨R,hR⟩ : ∃ R,R = byteF n ⟨bs,i,sd⟩ := ⟨_,rfl⟩
 rw [← hR]
 have HR := hid hR
 clear hR
 have HC := hid h
 have HB := hid hb
 have n1 := h.n1
 obtain ⟨c0,c1,c2,c3⟩ := quad_cells hb
 have fz := frz_of hb
 have cl := lt_of_block hb
 clear h
 have a1 : IntKind.i64.wrap ((i : Int) + 1) = (i : Int) + 1 := IntWalk.i64_in _ (by omega)
 have b1 : IntKind.i64.wrap (40 * (n : Int)) = 40 * n := IntWalk.i64_in _ (by omega)
 have b2 : IntKind.i64.wrap (150 + 40 * (n : Int)) = 150 + 40 * n := IntWalk.i64_in _ (by omega)
 obtain ⟨W,hW⟩ : ∃ W,W = w.setCell ⟨cb,1,none⟩ (.int .i64 ((i : Int) + 1)) := ⟨_,rfl⟩
 have HW : Hid (W.heap[cb]? = some (.cells #[.slice co n cap,.int .i64 ((i : Int) + 1),.int .i64 rm,.int .i64 sd] 37 (0,0))) := hid (by rw [hW,heap_setCell_same w cb 1 _ _ _ hb]; rfl)
 have OW : Hid (Dw cb w W) := hid (by rw [hW]; exact OnlyP.set _ rfl)
 have CW : Hid (Cur W cb co n cap (A + 1) ⟨bs,i + 1,sd⟩ True) := hid (cur_set (a := i + 1) HC.out OW.out (by simpa using HW.out) (by omega) (by omega) trivial)
 go_enter Tryz.func32,Tryz.ntmps32
 go_upto_region 2 with fail
 rw [← hW]
 obtain ⟨d0,d1,d2,d3⟩ := quad_cells HW.out
 have fy := frz_of HW.out
 have dl := lt_of_block HW.out
 clear c0 c1 c2 c3 fz cl hb hW
 have DN : Hid (∀ k,Cur (W.drewN k) cb co n cap (A + 1) ⟨bs,i + 1,sd⟩ True ∧ Dw cb w (W.drewN k)) := hid (fun k => ⟨CW.out.below (below_drewN (Below.refl _ _) k),OW.out.trans (Below.toP (below_drewN (Below.refl _ _) k))⟩)
 have DS : Hid (∀ k m s',0 ≤ s' → s' < 2147483648 → Cur (((W.drewN k).setCell ⟨cb,3,none⟩ (.int .i64 s')).drewN m) cb co n cap (A + 1) ⟨bs,i + 1,s'⟩ True ∧ Dw cb w (((W.drewN k).setCell ⟨cb,3,none⟩ (.int .i64 s')).drewN m)) := hid (fun k m s' h0 h1 => by
  have hP : Dw cb w (((W.drewN k).setCell ⟨cb,3,none⟩ (.int .i64 s')).drewN m) := ((DN.out k).2.trans (OnlyP.set _ rfl)).trans (Below.toP (below_drewN (Below.refl _ _) m))
  have hb : ((W.drewN k).setCell ⟨cb,3,none⟩ (.int .i64 s')).heap[cb]? = _ := heap_setCell_same (W.drewN k) cb 3 _ _ (.int .i64 s') HW.out
  exact ⟨cur_set (a := i + 1) HC.out hP (by simpa using hb) (by omega) ⟨h0,h1⟩ trivial,hP⟩)
 by_cases h1 : (i : Int) + 1 > 150 + 40 * (n : Int)
 ·go_quiet (fail)
  go_wp2_with fail
  go_ret
  have hF : byteF n ⟨bs,i,sd⟩ = (0,⟨bs,i + 1,sd⟩) := if_pos (show (i : Int) + 1 > 150 + 40 * (n : Int) by omega)
  rw [HR.out,hF]
  exact ⟨0,rfl,by omega,(DN.out _).1.with ⟨HC.out.fact,rfl⟩,(DN.out _).2⟩
 ·by_cases h2 : (i : Int) + 1 > (n : Int)
  ·go_quiet (fail)
   go_upto_region 4 with fail
   go_quiet (fail)
   go_wp2_with fail
   go_ret
   have hF : byteF n ⟨bs,i,sd⟩ = ((sd * 1103515245 + 12345) % 2147483648 / 65536 % 256,⟨bs,i + 1,(sd * 1103515245 + 12345) % 2147483648⟩) := (if_neg (show ¬ ((i : Int) + 1 > 150 + 40 * (n : Int)) by omega)).trans (if_pos (show (i : Int) + 1 > n by omega))
   rw [HR.out,hF]
   exact ⟨_,rfl,by omega,(DS.out _ 0 _ (by omega) (by omega)).1.with ⟨HC.out.fact,rfl⟩,(DS.out _ 0 _ (by omega) (by omega)).2⟩
  ·obtain ⟨g,off,rfl,hgl,hby⟩ := HC.out.by' (by omega)
   obtain ⟨hcell,hb0,hb1⟩ := hby i (by omega)
   have hF := hid (show byteF n ⟨bs,i,sd⟩ = (bs i,⟨bs,i + 1,(sd * 31 + bs i + 7) % 2147483648⟩) from (if_neg (show ¬ ((i : Int) + 1 > 150 + 40 * (n : Int)) by omega)).trans (if_neg (show ¬ ((i : Int) + 1 > n) by omega)))
   simp only at hcell hb0 hb1
   obtain ⟨b,eb⟩ : ∃ b,b = bs i := ⟨_,rfl⟩
   rw [← eb] at hcell hb0 hb1 hF
   have EB := hid eb
   clear eb
   have gne := HC.out.off (by omega) g off rfl
   have cW : W.cell? ⟨g,off + i,none⟩ = some (.int .u8 b) := by
    rw [← hcell]
    have hk := OW.out.block g hgl gne
    simp only [World.cell?,hk]
   have gW : g < W.heap.size := Nat.lt_of_lt_of_le hgl OW.out.size
   clear hby hcell
   go_quiet (fail)
   go_upto_region 4 with fail
   obtain ⟨U,hU⟩ : ∃ U,U = W.drewN nq := ⟨_,rfl⟩
   rw [← hU]
   have u0 : U.cell? ⟨cb,0,none⟩ = some (.slice (some ⟨g,off,none⟩) n cap) := by rw [hU]; exact d0
   have u1 : U.cell? ⟨cb,1,none⟩ = some (.int .i64 ((i : Int) + 1)) := by rw [hU]; exact d1
   have HU := hid hU
   clear hU
   go_quiet (fail)
   go_upto_region 7 with fail
   obtain ⟨V,hV0⟩ : ∃ V,V = U.drewN nq := ⟨_,rfl⟩
   rw [← hV0]
   obtain ⟨mv,hV⟩ : ∃ m,V = W.drewN m := ⟨_,by rw [hV0,HU.out,World.drewN_drewN]⟩
   clear hV0 u0 u1
   have e0 : V.cell? ⟨cb,0,none⟩ = some (.slice (some ⟨g,off,none⟩) n cap) := by rw [hV]; exact d0
   have e1 : V.cell? ⟨cb,1,none⟩ = some (.int .i64 ((i : Int) + 1)) := by rw [hV]; exact d1
   have e3 : V.cell? ⟨cb,3,none⟩ = some (.int .i64 sd) := by rw [hV]; exact d3
   have eg : V.cell? ⟨g,off + i,none⟩ = some (.int .u8 b) := by rw [hV]; exact cW
   have fv : ∀ o,V.frozen? ⟨cb,o,none⟩ = false := by rw [hV]; exact fy
   have vl : cb < V.heap.size := by rw [hV]; exact dl
   have gl2 : g < V.heap.size := by rw [hV]; exact gW
   have DV : Hid (∀ m k s',0 ≤ s' → s' < 2147483648 → Cur (((V.drewN m).setCell ⟨cb,3,none⟩ (.int .i64 s')).drewN k) cb (some ⟨g,off,none⟩) n cap (A + 1) ⟨bs,i + 1,s'⟩ True ∧ Dw cb w (((V.drewN m).setCell ⟨cb,3,none⟩ (.int .i64 s')).drewN k)) := hid (fun m k s' h0 h1 => by
    rw [hV,World.drewN_drewN]
    exact DS.out _ k s' h0 h1)
   clear hV d0 d1 d2 d3 cW gW dl fy
   go_region
   go_upto_region 8 with fail
   have sr : 0 ≤ (sd * 31 + b + 7) % 2147483648 ∧ (sd * 31 + b + 7) % 2147483648 < 2147483648 := by omega
   obtain ⟨s9,hs9⟩ : ∃ x,x = (sd * 31 + b + 7) % 2147483648 := ⟨_,rfl⟩
   rw [← hs9] at sr hF ⊢
   obtain ⟨Y,hY⟩ : ∃ Y,Y = (V.setCell ⟨cb,3,none⟩ (.int .i64 s9)).drew := ⟨_,rfl⟩
   have gc : ¬ (cb = g) := fun e => gne e.symm
   have y0 : Y.cell? ⟨cb,0,none⟩ = some (.slice (some ⟨g,off,none⟩) n cap) := by rw [hY]; go_simp
   have y1 : Y.cell? ⟨cb,1,none⟩ = some (.int .i64 ((i : Int) + 1)) := by rw [hY]; go_simp
   have yg : Y.cell? ⟨g,off + i,none⟩ = some (.int .u8 b) := by rw [hY]; go_simp
   have gl3 : g < Y.heap.size := by rw [hY]; simpa using gl2
   have cl3 : cb < Y.heap.size := by rw [hY]; simpa using vl
   have DY : Hid (∀ k,Cur (Y.drewN k) cb (some ⟨g,off,none⟩) n cap (A + 1) ⟨bs,i + 1,s9⟩ True ∧ Dw cb w (Y.drewN k)) := hid (fun k => by
    rw [hY,World.drewN_drew]
    exact DV.out 0 _ s9 sr.1 sr.2)
   rw [← hY]
   clear hY hs9 e0 e1 e3 eg fv vl gl2
   go_quiet (fail)
   go_wp2_with fail
   go_ret
   rw [HR.out,hF.out]
   exact ⟨b,rfl,by omega,(DY.out _).1.with ⟨HC.out.fact,rfl⟩,(DY.out _).2⟩
set_option maxRecDepth 100000 in
set_option maxHeartbeats 4000000 in
theorem pick_any (cb : Nat) (co : Option Addr) (n cap A : Nat) (k : Int) (hk : k ≤ 65536) {σ : Cs} {P : Prop} (w : World) (hA : A ≤ 100000000000) (h : Cur w cb co n cap A σ P) :
  Calls Tryz.prog 19 #[.pointer (some ⟨cb,0,none⟩),.int .i64 k] w fun e w' => ∃ r : Nat,e = .returned (.int .i64 (r : Int)) ∧ (r = 0 ∨ (r : Int) < k) ∧ Cur w' cb co n cap (A + 2) (pickF n k σ).2 (P ∧ r = (pickF n k σ).1) ∧ Dw cb w w' := by
 have HC := hid h
 clear h
 by_cases h1 : k ≤ 1
 ·go_enter Tryz.func19,Tryz.ntmps19
  go_wp2_with fail
  go_ret
  have hF : pickF n k σ = (0,σ) := if_pos (by omega)
  rw [hF]
  exact ⟨0,rfl,.inl rfl,(HC.out.mono (by omega)).with ⟨HC.out.fact,rfl⟩,OnlyP.refl _ _⟩
 ·by_cases h2 : k ≤ 256
  ·have C := hid (byte_any cb co n cap A w (by omega) HC.out)
   have hk0 : ¬ k = 0 := by omega
   go_enter Tryz.func19,Tryz.ntmps19
   go_wp2_with (go_at_call 32; refine C.out.mono ?_; rintro e w1 ⟨r,rfl,⟨hr0,hr1⟩,hc,hd⟩; have C1 := hid hc; have D1 := hid hd; clear hc hd)
   obtain ⟨m,hm⟩ : ∃ m : Nat,r % k = m := ⟨(r % k).toNat,by have := Int.emod_nonneg r hk0; omega⟩
   have hlt := Int.emod_lt_of_pos r (show 0 < k by omega)
   have hF : pickF n k σ = (m,(byteF n σ).2) := by
    have e := C1.out.fact.2
    unfold pickF
    rw [if_neg (by omega),if_pos (by omega),← e,hm]
    rfl
   rw [hm] at hlt ⊢
   go_ret
   rw [hF]
   exact ⟨m,rfl,.inr hlt,(C1.out.mono (by omega)).with ⟨HC.out.fact,rfl⟩,D1.out⟩
  ·have C := hid (byte_any cb co n cap A w (by omega) HC.out)
   have C' := hid (fun w {τ : Cs} {Q : Prop} (h : Cur w cb co n cap (A + 1) τ Q) => byte_any cb co n cap (A + 1) w (by omega) h)
   have hk0 : ¬ k = 0 := by omega
   go_enter Tryz.func19,Tryz.ntmps19
   go_wp2_with (first
    | (go_at_call 32; refine C.out.mono ?_; rintro e w1 ⟨r,rfl,⟨hr0,hr1⟩,hc,hd⟩; have C1 := hid hc; have D1 := hid hd; clear hc hd)
    | (go_at_call 32; refine (C'.out _ C1.out).mono ?_; rintro e w2 ⟨r2,rfl,⟨hr2,hr3⟩,hc,hd⟩; have C2 := hid hc; have D2 := hid hd; clear hc hd))
   obtain ⟨m,hm⟩ : ∃ m : Nat,(r * 256 + r2) % k = m := ⟨((r * 256 + r2) % k).toNat,by have := Int.emod_nonneg (r * 256 + r2) hk0; omega⟩
   have hlt := Int.emod_lt_of_pos (r * 256 + r2) (show 0 < k by omega)
   have hF : pickF n k σ = (m,(byteF n (byteF n σ).2).2) := by
    have e := C1.out.fact.2
    have e2 := C2.out.fact.2
    unfold pickF
    rw [if_neg (by omega),if_neg (by omega),← e,← e2,hm]
    rfl
   rw [hm] at hlt ⊢
   go_ret
   rw [hF]
   exact ⟨m,rfl,.inr hlt,(C2.out.mono (by omega)).with ⟨HC.out.fact,rfl⟩,D1.out.trans D2.out⟩
end Go.Proofs.YtkdgkomnbjepdaaGreatDoor
namespace Go.Proofs.YtkdgkomnbjepdaaGreatDoor
open Go.RowKit Go.Sort
set_option linter.unusedVariables false
attribute [local go_sem ↓] Go.wp_at_zero Go.wp_at_succ
theorem lit_cell {w : World} {H : Nat} {zs : List Int} {t : TypeId} {r : Nat} (hb : w.heap[H]? = some (.cells (zs.map (Value.int .i64)).toArray t (0,0))) (hr : r < zs.length) : w.cell? ⟨H,r,none⟩ = some (.int .i64 (zs.getD r 0)) := by
 simp [World.cell?,hb,hr]
theorem lit_all {zs : List Int} {P : Int → Prop} (h : ∀ z ∈ zs,P z) {r : Nat} (hr : r < zs.length) : P (zs.getD r 0) := by
 rw [List.getD_eq_getElem?_getD,List.getElem?_eq_getElem hr]
 exact h _ (List.getElem_mem hr)
def numF (n : Nat) (σ : Cs) : Int × Cs := (([0,1,2,3,-1,5,8,10,63,64,65,-2,255,256,65535,999999999,-999999999,31,4,7] : List Int).getD (pickF n 20 σ).1 0,(pickF n 20 σ).2)
def bytesF (n : Nat) : Nat → Int × Cs → Int × Cs
 | 0,x => x
 | k + 1,x => (wrap64 (wrap64 ((bytesF n k x).1 * 256) + (byteF n (bytesF n k x).2).1),(byteF n (bytesF n k x).2).2)
def intF (n : Nat) (σ : Cs) : Int × Cs := if (pickF n 35 σ).1 < 31 then (([0,1,2,3,-1,7,100,127,128,255,256,-128,-129,32767,32768,65535,65536,2147483647,2147483648,-2147483648,-2147483649,4294967295,4294967296,9223372036854775807,-9223372036854775808,-9223372036854775807,1000000007,-5,63,64,65] : List Int).getD (pickF n 35 σ).1 0,(pickF n 35 σ).2) else bytesF n 8 (0,(pickF n 35 σ).2)
theorem dw_alloc (cb : Nat) (w : World) (o : Obj) : Dw cb w (w.alloc o) := Below.toP (below1 w o)
theorem Dw.at {cb : Nat} {w w' : World} (h : Dw cb w w') {H : Nat} {o : Obj} (hb : w.heap[H]? = some o) (hn : H ≠ cb) : w'.heap[H]? = some o := (h.block H (lt_of_block hb) hn).trans hb
set_option maxRecDepth 100000 in
set_option maxHeartbeats 4000000 in
theorem drawNum_any (cb : Nat) (co : Option Addr) (n cap A : Nat) {σ : Cs} {P : Prop} (w : World) (hA : A ≤ 10000000000) (h : Cur w cb co n cap A σ P) :
  Calls Tryz.prog 97 #[.pointer (some ⟨cb,0,none⟩)] w fun e w' => ∃ r : Int,e = .returned (.int .i64 r) ∧ (-999999999 ≤ r ∧ r ≤ 999999999) ∧ Cur w' cb co n cap (A + 2) (numF n σ).2 (P ∧ r = (numF n σ).1) ∧ Dw cb w w' := by
 have ne : w.heap.size ≠ cb := fun e => by have := h.lt; omega
 have C := hid (fun o => pick_any cb co n cap A 20 (by omega) (w.alloc o) (by omega) (h.below (below1 _ _)))
 clear h
 go_enter Tryz.func97,Tryz.ntmps97
 go_wp2_with (go_at_call 19; refine (C.out _).mono ?_; rintro e w1 ⟨r,rfl,hr,hc,hd⟩; have r20 : r < 20 := (by omega); have hc1 := lit_cell (zs := [0,1,2,3,-1,5,8,10,63,64,65,-2,255,256,65535,999999999,-999999999,31,4,7]) (hd.at (heap_alloc_new w _) ne) r20; have hb1 := lit_all (zs := [0,1,2,3,-1,5,8,10,63,64,65,-2,255,256,65535,999999999,-999999999,31,4,7]) (P := fun z => -999999999 ≤ z ∧ z ≤ 999999999) (by decide) r20; obtain ⟨z,hz⟩ : ∃ z,z = ([0,1,2,3,-1,5,8,10,63,64,65,-2,255,256,65535,999999999,-999999999,31,4,7] : List Int).getD r 0 := ⟨_,rfl⟩; rw [← hz] at hc1 hb1; have wl := lt_of_block (hd.at (heap_alloc_new w _) ne); have C1 := hid hc; have D1 := hid hd; have HZ := hid hz; clear hc hd hz hr)
 go_ret
 exact ⟨z,rfl,hb1,C1.out.with ⟨C1.out.fact.1,by rw [HZ.out,C1.out.fact.2]; rfl⟩,(dw_alloc _ _ _).trans D1.out⟩
theorem wrap_J64 (z : Int) : J64 (wrap64 z) := by
 unfold J64 wrap64
 omega
set_option maxRecDepth 100000 in
set_option maxHeartbeats 4000000 in
theorem drawInt_any (cb : Nat) (co : Option Addr) (n cap A : Nat) {σ : Cs} {P : Prop} (w : World) (hA : A ≤ 10000000000) (h : Cur w cb co n cap A σ P) :
  Calls Tryz.prog 34 #[.pointer (some ⟨cb,0,none⟩)] w fun e w' => ∃ r : Int,e = .returned (.int .i64 r) ∧ J64 r ∧ Cur w' cb co n cap (A + 10) (intF n σ).2 (P ∧ r = (intF n σ).1) ∧ Dw cb w w' := by
 have ne : w.heap.size ≠ cb := fun e => by have := h.lt; omega
 have C := hid (fun o => pick_any cb co n cap A 35 (by omega) (w.alloc o) (by omega) (h.below (below1 _ _)))
 have CB := hid (fun B w' (hB : B ≤ 10000000020) {τ : Cs} {Q : Prop} (h' : Cur w' cb co n cap B τ Q) => byte_any cb co n cap B w' (by omega) h')
 clear h
 go_enter Tryz.func34,Tryz.ntmps34
 go_upto_region 3 with (go_at_call 19; refine (C.out _).mono ?_; rintro e w1 ⟨r,rfl,hr,hc,hd⟩; have r35 : r < 35 := (by omega); have bl := hd.at (heap_alloc_new w _) ne; have wl := lt_of_block bl; have BL := hid bl; have C1 := hid hc; have D1 := hid ((dw_alloc _ _ _).trans hd); clear hc hd hr bl)
 by_cases h31 : r < 31
 ·have hc1 := lit_cell (zs := [0,1,2,3,-1,7,100,127,128,255,256,-128,-129,32767,32768,65535,65536,2147483647,2147483648,-2147483648,-2147483649,4294967295,4294967296,9223372036854775807,-9223372036854775808,-9223372036854775807,1000000007,-5,63,64,65]) BL.out h31
  have hb1 := lit_all (zs := [0,1,2,3,-1,7,100,127,128,255,256,-128,-129,32767,32768,65535,65536,2147483647,2147483648,-2147483648,-2147483649,4294967295,4294967296,9223372036854775807,-9223372036854775808,-9223372036854775807,1000000007,-5,63,64,65]) (P := fun z => J64 z) (by unfold J64; decide) h31
  obtain ⟨z,hz⟩ : ∃ z,z = ([0,1,2,3,-1,7,100,127,128,255,256,-128,-129,32767,32768,65535,65536,2147483647,2147483648,-2147483648,-2147483649,4294967295,4294967296,9223372036854775807,-9223372036854775808,-9223372036854775807,1000000007,-5,63,64,65] : List Int).getD r 0 := ⟨_,rfl⟩
  rw [← hz] at hc1 hb1
  have HB1 := hid hb1
  have HZ := hid hz
  clear hz hb1
  go_wp2_with fail
  go_ret
  have hF : intF n σ = (z,(pickF n 35 σ).2) := by
   have e := C1.out.fact.2
   unfold intF
   rw [if_pos (by rw [← e]; exact h31),HZ.out,← e]
  rw [hF]
  exact ⟨z,rfl,HB1.out,(C1.out.mono (by omega)).with ⟨C1.out.fact.1,rfl⟩,D1.out⟩
 ·have hF := hid (show intF n σ = bytesF n 8 (0,(pickF n 35 σ).2) by
   have e := C1.out.fact.2
   unfold intF
   rw [if_neg (by rw [← e]; exact h31)])
  go_wp2_with fail
  go_loopg [5,6] 8 (fun mm v i X => ∃ (k : Nat) (z : Int),k ≤ 8 ∧ mm = 8 - k ∧ i = .int .i64 k ∧ v = .int .i64 z ∧ J64 z ∧ Cur X cb co n cap (A + 2 + k) (bytesF n k (0,(pickF n 35 σ).2)).2 (P ∧ z = (bytesF n k (0,(pickF n 35 σ).2)).1) ∧ Dw cb w X)
  case atStart => exact ⟨0,0,by omega,by omega,rfl,rfl,by unfold J64; omega,C1.out.with ⟨C1.out.fact.1,rfl⟩,D1.out⟩
  case round =>
   obtain ⟨k,z,hk,rfl,rfl,rfl,hz,hC,hD⟩ := hrel
   have HZ := hid hz
   have HC := hid hC
   have HD := hid hD
   clear hz hC hD
   by_cases hlt : k < 8
   ·go_wp2_with (go_at_call 32; refine (CB.out _ _ (by omega) HC.out).mono ?_; rintro e w3 ⟨b,rfl,⟨hb0,hb1⟩,hc,hd⟩; have C3 := hid hc; have D3 := hid (HD.out.trans hd); clear hc hd)
    go_roundg (8 - (k + 1))
    case measure => omega
    case rel => exact ⟨k + 1,_,by omega,rfl,by go_num,rfl,wrap_J64 _,(C3.out.mono (by omega)).with ⟨HC.out.fact.1,by rw [bytesF,← HC.out.fact.2,← C3.out.fact.2]⟩,D3.out⟩
   ·obtain rfl : k = 8 := by omega
    go_wp2_with fail
    go_ret
    rw [hF.out]
    exact ⟨z,rfl,HZ.out,HC.out.mono (by omega),HD.out⟩
end Go.Proofs.YtkdgkomnbjepdaaGreatDoor
namespace Go.Proofs.YtkdgkomnbjepdaaGreatDoor
open Go.RowKit Go.Sort
set_option linter.unusedVariables false
attribute [local go_sem ↓] Go.wp_at_zero Go.wp_at_succ
def cellsI (its : List (Int × Int)) : List Value := its.flatMap (fun p => [.int .i64 p.1,.int .i64 p.2])
theorem cellsI_append (a b : List (Int × Int)) : cellsI (a ++ b) = cellsI a ++ cellsI b := by simp [cellsI]
theorem cellsI_len (a : List (Int × Int)) : (cellsI a).length = a.length * 2 := by
 unfold cellsI
 induction a with
 | nil => rfl
 | cons x r ih => simp only [List.flatMap_cons,List.length_append,ih,List.length_cons,List.length_nil]; omega
theorem cellsI_one (a : List (Int × Int)) : ∀ u ∈ cellsI a,u.oneCell' = true := by
 intro u hu
 unfold cellsI at hu
 obtain ⟨p,_,hp⟩ := List.mem_flatMap.1 hu
 simp at hp
 rcases hp with rfl | rfl <;> rfl
def CodeD (vars : Int) (its : List (Int × Int)) (m : Nat) : Prop := its.length ≤ m ∧ ∀ st,∃ t,runT vars its st = some (t :: st)
theorem CodeD.pos {vars : Int} {its : List (Int × Int)} {m : Nat} (h : CodeD vars its m) : 1 ≤ its.length := by
 cases its with
 | nil => obtain ⟨t,ht⟩ := h.2 []; simp [runT] at ht
 | cons x r => simp
theorem CodeD.ok {vars : Int} {its : List (Int × Int)} {m : Nat} (h : CodeD vars its m) (hv : 0 ≤ vars ∧ vars ≤ 32) (hm : m ≤ 200) : codeB its vars = true := by
 rw [← okT_codeB]
 obtain ⟨t,ht⟩ := h.2 []
 have h1 := h.pos
 have h2 := h.1
 unfold liftT
 rw [if_pos ⟨hv,h1,by omega⟩,ht]
 rfl
theorem code_one {vars op val : Int} (h : ∀ st,∃ t,stepT vars op val st = some (t,st)) : CodeD vars [(op,val)] 1 := ⟨by simp,fun st => by
 obtain ⟨t,ht⟩ := h st
 exact ⟨t,by simp [runT,ht]⟩⟩
theorem code_un {vars op val : Int} {a : List (Int × Int)} {m : Nat} (ha : CodeD vars a m) (h : ∀ t st,∃ t',stepT vars op val (t :: st) = some (t',st)) : CodeD vars (a ++ [(op,val)]) (m + 1) := ⟨by simp; exact ha.1,fun st => by
 obtain ⟨t,ht⟩ := ha.2 st
 obtain ⟨t',h'⟩ := h t st
 exact ⟨t',by simp [runT_append,ht,runT,h']⟩⟩
theorem code_bin {vars op : Int} {a b : List (Int × Int)} {m k : Nat} (ha : CodeD vars a m) (hb : CodeD vars b k) (h : binOk op) : CodeD vars (a ++ b ++ [(op,0)]) (m + k + 1) := ⟨by have := ha.1; have := hb.1; simp; omega,fun st => by
 obtain ⟨t,ht⟩ := ha.2 st
 obtain ⟨u,hu⟩ := hb.2 (t :: st)
 have h1 := h.1
 have h2 := h.2.1
 have h3 := h.2.2
 refine ⟨.bin op t u,?_⟩
 have e : stepT vars op 0 (u :: t :: st) = some (.bin op t u,st) := by
  unfold stepT
  rw [if_neg (by omega),if_neg (by omega),if_neg (by omega),if_neg (by omega),if_neg (by omega),if_neg (by omega)]
  simp only
  rw [if_pos h]
 simp [runT_append,ht,hu,runT,e]⟩
def bud : Nat → Nat
 | 0 => 8
 | k + 1 => 2 * bud k + 8
def cl : Nat → Nat
 | 0 => 1
 | k + 1 => 2 * cl k + 1
theorem infoItem : (Tryz.prog.info? 107).map (fun i => (i.zero,i.size,i.bytes)) = some (some (.agg #[.int .i64 0,.int .i64 0]),2,16) := by kernel_rfl
theorem own_new2 {w : World} {B : Nat} {a b : Value} {t : TypeId} (hB : B ≤ w.heap.size) : (w.alloc (.cells #[a,b] t)).ownsRow B t 2 (.slice (some ⟨w.heap.size,0,none⟩) 1 1) 1 [a,b] :=
 ⟨rfl,.inr ⟨w.heap.size,1,#[a,b],rfl,hB,heap_alloc_new w _,Nat.le_refl _,by unfold maxLen; omega,rfl,rfl⟩⟩
theorem grP {v : Value} {X Y : World} (hg : X.grownBy Y v.ownBlock) : OnlyP (fun b => v.ownBlock = some b) X Y := ⟨hg.os,hg.tape,hg.output,hg.size,fun q hq hn => hg.block q hq (fun e => hn e.symm)⟩
theorem cur_grown {w X Y : World} {cb : Nat} {co : Option Addr} {n cap A B : Nat} {v : Value} {e : TypeId} {size m : Nat} {xs : List Value} {σ τ : Cs} {P Q : Prop} (h0 : Cur w cb co n cap B σ P) (h : Cur X cb co n cap A τ Q) (hd : Dw cb w X) (ho : X.ownsRow w.heap.size e size v m xs) (he : e ≠ 37) (hg : X.grownBy Y v.ownBlock) : Cur Y cb co n cap A τ Q ∧ Dw cb w Y := by
 have hP := grP hg
 have nc : ¬ v.ownBlock = some cb := fun e2 => by
  obtain ⟨r,hb,_⟩ := h.ex
  exact own_far ho (fun e3 => he e3.symm) hb e2
 refine ⟨h.only hP nc (fun h1 g o e2 e3 => ?_),⟨hP.os.trans hd.os,hP.tape.trans hd.tape,hP.output.trans hd.output,Nat.le_trans hd.size hP.size,fun q hq hn => ?_⟩⟩
 ·have := h0.code_lt h1 g o e2
  have := (ho.lt g e3).1
  omega
 ·rw [← hd.block q hq hn]
  exact hP.block q (Nat.lt_of_lt_of_le hq hd.size) (fun e3 => by have := (ho.lt q e3).1; omega)
theorem Dw.own {cb : Nat} {X Y : World} {B : Nat} {e : TypeId} {size : Nat} {v : Value} {m : Nat} {xs : List Value} {co : Option Addr} {n cap A : Nat} {σ : Cs} {P : Prop} (hd : Dw cb X Y) (h : Cur X cb co n cap A σ P) (ho : X.ownsRow B e size v m xs) (he : e ≠ 37) : Y.ownsRow B e size v m xs := OnlyP.own hd ho (fun b e2 e3 => by
 obtain ⟨r,hb,_⟩ := h.ex
 rw [e3] at e2
 exact own_far ho (fun e3 => he e3.symm) hb e2)
end Go.Proofs.YtkdgkomnbjepdaaGreatDoor

import Derived.Test.YtkdgkomnbjepdaaGreatDoorPb
namespace Go.Proofs.YtkdgkomnbjepdaaGreatDoor
open Go.RowKit Go.Sort
set_option linter.unusedVariables false
attribute [local go_sem ↓] Go.wp_at_zero Go.wp_at_succ
theorem lineW_sig (s : SyD) (r : List (List UInt8)) (bg : Bool) : lineW s kSig r bg = (match nums r with | some [n] => if bg then none else some { s with sigs := n } | _ => none) := by
 unfold lineW; rw [if_pos rfl]; rfl
theorem lineW_un (s : SyD) {key : List UInt8} (r : List (List UInt8)) (h : ¬ key = kSig) : lineW s key r false = none := by
 unfold lineW; rw [if_neg h,if_pos rfl]
theorem lineW_obj (s : SyD) (r : List (List UInt8)) : lineW s kObj r true = (match nums r with | some [p,q,d] => some { s with obs := s.obs ++ [⟨p,q,d,[],[],[],[],[]⟩] } | _ => none) := by
 unfold lineW; rw [if_neg (by decide),if_neg (by decide),if_pos rfl]; rfl
theorem lineW_tim (s : SyD) (r : List (List UInt8)) : lineW s kTim r true = (match nums r with | some [o,g] => some { s with tms := s.tms ++ [(o,g)] } | _ => none) := by
 unfold lineW; rw [if_neg (by decide),if_neg (by decide),if_neg (by decide),if_pos rfl]; rfl
theorem lineW_var (s : SyD) (r : List (List UInt8)) : lineW s kVar r true = (match r with
  | [k,v] => if placeN kindsL k 0 < 0 then none else match num? v with
   | some n => oneOb s (fun o => { o with kinds := o.kinds ++ [1 + placeN kindsL k 0],vals := o.vals ++ [n] })
   | none => none
  | _ => none) := by
 unfold lineW; rw [if_neg (by decide),if_neg (by decide),if_neg (by decide),if_neg (by decide),if_pos rfl]; rfl
theorem lineW_sub (s : SyD) (r : List (List UInt8)) : lineW s kSub r true = (match nums r with | some [n] => oneOb s (fun o => { o with subs := o.subs ++ [n] }) | _ => none) := by
 unfold lineW; rw [if_neg (by decide),if_neg (by decide),if_neg (by decide),if_neg (by decide),if_neg (by decide),if_pos rfl]; rfl
theorem lineW_sta (s : SyD) (r : List (List UInt8)) : lineW s kSta r true = (match nums r with | some [p,i] => oneOb s (fun o => { o with sts := o.sts ++ [⟨p,i,[],[]⟩] }) | _ => none) := by
 unfold lineW; rw [if_neg (by decide),if_neg (by decide),if_neg (by decide),if_neg (by decide),if_neg (by decide),if_neg (by decide),if_pos rfl]; rfl
theorem lineW_on (s : SyD) (r : List (List UInt8)) : lineW s kOn r true = (match numsN r 3,codeW (r.drop 3) with
  | some [f,g,t],some c => oneOb s (fun o => { o with trs := o.trs ++ [⟨f,g,c,t,[]⟩] })
  | _,_ => none) := by
 unfold lineW; rw [if_neg (by decide),if_neg (by decide),if_neg (by decide),if_neg (by decide),if_neg (by decide),if_neg (by decide),if_neg (by decide),if_pos rfl]; rfl
theorem lineW_ent (s : SyD) (r : List (List UInt8)) : lineW s kEnt r true = (match stmW r with
  | some x => if (lastOb s).sts = [] then none else oneOb s (fun o => { o with sts := turnL o.sts (fun t => { t with entry := t.entry ++ [x] }) })
  | none => none) := by
 unfold lineW; rw [if_neg (by decide),if_neg (by decide),if_neg (by decide),if_neg (by decide),if_neg (by decide),if_neg (by decide),if_neg (by decide),if_neg (by decide),if_pos rfl]; rfl
theorem lineW_exi (s : SyD) (r : List (List UInt8)) : lineW s kExi r true = (match stmW r with
  | some x => if (lastOb s).sts = [] then none else oneOb s (fun o => { o with sts := turnL o.sts (fun t => { t with exit := t.exit ++ [x] }) })
  | none => none) := by
 unfold lineW; rw [if_neg (by decide),if_neg (by decide),if_neg (by decide),if_neg (by decide),if_neg (by decide),if_neg (by decide),if_neg (by decide),if_neg (by decide),if_neg (by decide),if_pos rfl]; rfl
theorem lineW_do (s : SyD) (r : List (List UInt8)) : lineW s kDo r true = (match stmW r with
  | some x => if (lastOb s).trs = [] then none else oneOb s (fun o => { o with trs := turnL o.trs (fun t => { t with action := t.action ++ [x] }) })
  | none => none) := by
 unfold lineW; rw [if_neg (by decide),if_neg (by decide),if_neg (by decide),if_neg (by decide),if_neg (by decide),if_neg (by decide),if_neg (by decide),if_neg (by decide),if_neg (by decide),if_neg (by decide),if_pos rfl]; rfl
theorem lineW_else (s : SyD) {key : List UInt8} (r : List (List UInt8)) (h0 : ¬ key = kSig) (h1 : ¬ key = kObj) (h2 : ¬ key = kTim) (h3 : ¬ key = kVar) (h4 : ¬ key = kSub) (h5 : ¬ key = kSta) (h6 : ¬ key = kOn) (h7 : ¬ key = kEnt) (h8 : ¬ key = kExi) (h9 : ¬ key = kDo) : lineW s key r true = none := by
 unfold lineW; rw [if_neg h0,if_neg (by decide),if_neg h1,if_neg h2,if_neg h3,if_neg h4,if_neg h5,if_neg h6,if_neg h7,if_neg h8,if_neg h9]
theorem oneOb_nil (s : SyD) (h : s.obs = []) (f : ObD → ObD) : oneOb s f = none := by unfold oneOb; rw [if_pos h]
theorem oneOb_snoc (sg : Int) (l : List ObD) (o : ObD) (tms : List (Int × Int)) (f : ObD → ObD) : oneOb ⟨sg,l ++ [o],tms⟩ f = some ⟨sg,l ++ [f o],tms⟩ := by
 unfold oneOb; rw [if_neg (by simp)]; simp only [turnL_snoc]
theorem lastOb_snoc (sg : Int) (l : List ObD) (o : ObD) (tms : List (Int × Int)) : lastOb ⟨sg,l ++ [o],tms⟩ = o := by simp [lastOb]
theorem lineW_bare (s : SyD) {key : List UInt8} (r : List (List UInt8)) (h : s.obs = []) (h0 : ¬ key = kSig) (h1 : ¬ key = kObj) (h2 : ¬ key = kTim) : lineW s key r true = none := by
 unfold lineW
 rw [if_neg h0,if_neg (by decide),if_neg h1,if_neg h2]
 repeat' split
 all_goals first | rfl | exact oneOb_nil s h _
end Go.Proofs.YtkdgkomnbjepdaaGreatDoor
namespace Go.Proofs.YtkdgkomnbjepdaaGreatDoor
open Go.RowKit Go.Sort
set_option linter.unusedVariables false
attribute [local go_sem ↓] Go.wp_at_zero Go.wp_at_succ
def boxR (t : TypeId) (H : Nat) (xs : List Value) : Rw := ⟨t,xs.length,.slice (some ⟨H,0,none⟩) 1 1,1,xs⟩
theorem box_own {w : World} {B H : Nat} {t : TypeId} {xs : List Value} (h : w.heap[H]? = some (.cells xs.toArray t (0,0))) (hB : B ≤ H) : (boxR t H xs).own w B :=
 ⟨by simp [boxR],.inr ⟨H,1,_,rfl,hB,h,Nat.le_refl _,by unfold maxLen; omega,by simp [boxR],by simp [boxR]⟩⟩
theorem box_blk {w : World} {B H : Nat} {t : TypeId} {xs : List Value} (h : (boxR t H xs).own w B) : w.heap[H]? = some (.cells xs.toArray t (0,0)) := by
 rcases h.2 with ⟨h0,_⟩ | ⟨g,cap,cur,h1,h2,h3,h4,h5,h6,h7⟩
 ·simp [boxR] at h0
 ·simp only [boxR,Value.slice.injEq,Option.some.injEq,Addr.mk.injEq,and_true,true_and] at h1
  obtain ⟨rfl,rfl⟩ := h1
  simp only [boxR,Nat.one_mul] at h6 h7 h3
  rw [List.take_of_length_le (by rw [Array.length_toList]; omega)] at h7
  rw [h3,← h7]
section
variable {w w' : World} {B : Nat} {R : List Rw}
theorem Flat.box (h : Flat w B R) (hB : B ≤ w.heap.size) (t : TypeId) (xs : List Value) : Flat (w.alloc (.cells xs.toArray t)) B (boxR t w.heap.size xs :: R) :=
 h.fresh hB (below1 _ _) (box_own (heap_alloc_new _ _) (Nat.le_refl _))
end
theorem three_cc {w : World} {H : Nat} {a b c : Value} {t : TypeId} (k : w.heap[H]? = some (.cells #[a,b,c] t (0,0))) : (w.cell? ⟨H,0,none⟩ = some a ∧ w.cell? ⟨H,1,none⟩ = some b ∧ w.cell? ⟨H,2,none⟩ = some c) ∧ w.frozen? ⟨H,0,none⟩ = false ∧ w.frozen? ⟨H,1,none⟩ = false ∧ w.frozen? ⟨H,2,none⟩ = false ∧ H < w.heap.size := by
 refine ⟨?_,?_,?_,?_,lt_of_block k⟩ <;> simp [World.cell?,World.frozen?,k]
theorem tri_set {w : World} {H : Nat} {a b c : Value} {t : TypeId} (k : w.heap[H]? = some (.cells #[a,b,c] t (0,0))) (v0 v1 v2 : Value) : (((w.setCell ⟨H,0,none⟩ v0).setCell ⟨H,1,none⟩ v1).setCell ⟨H,2,none⟩ v2).heap[H]? = some (.cells #[v0,v1,v2] t (0,0)) := by
 have h0 := heap_setCell_same w H 0 _ _ v0 k
 have h1 := heap_setCell_same _ H 1 _ _ v1 h0
 have h2 := heap_setCell_same _ H 2 _ _ v2 h1
 simpa using h2
/-! How great the lists are. -/
structure SmO (o : ObD) (N : Nat) : Prop where
 k : o.kinds.length ≤ N
 v : o.vals.length ≤ N
 u : o.subs.length ≤ N
 s : o.sts.length ≤ N
 t : o.trs.length ≤ N
 e : ∀ x ∈ o.sts,x.entry.length ≤ N ∧ x.exit.length ≤ N
 a : ∀ x ∈ o.trs,x.action.length ≤ N
structure SmD (s : SyD) (N : Nat) : Prop where
 o : s.obs.length ≤ N
 t : s.tms.length ≤ N
 a : ∀ o ∈ s.obs,SmO o N
theorem Flat.sublist {w : World} {B : Nat} {L M : List Rw} (h : Flat w B L) (hs : M.Sublist L) : Flat w B M := ⟨fun r hr => h.own r (hs.subset hr),h.far.sublist hs⟩
end Go.Proofs.YtkdgkomnbjepdaaGreatDoor
namespace Go.Proofs.YtkdgkomnbjepdaaGreatDoor
open Go.RowKit Go.Sort
set_option linter.unusedVariables false
theorem TxRow.form {w : World} {B : Nat} {v : Value} {fs : List (List UInt8)} (h : TxRow w B v fs) (h0 : fs ≠ []) : ∃ g n c,v = .slice (some ⟨g,0,none⟩) (n + 1) c ∧ fs.length = n + 1 ∧ n + 1 ≤ c ∧ B ≤ g ∧ StrsOf w (some ⟨g,0,none⟩) (n + 1) fs := by
 have hl : fs.length ≠ 0 := fun e => h0 (List.length_eq_zero_iff.1 e)
 obtain ⟨m,hm⟩ : ∃ m,fs.length = m + 1 := ⟨fs.length - 1,by omega⟩
 rcases h.2 with ⟨_,h1⟩ | ⟨g,cap,cur,h1,h2,h3,h4,_⟩
 ·exact absurd h1 hl
 ·subst h1
  have hs := (TxRow.strs h).1
  rw [hm] at hs h4
  exact ⟨g,m,cap,by rw [hm],hm,h4,h2,hs⟩
theorem row_len {w : World} {B : Nat} {e : TypeId} {size : Nat} {ao : Option Addr} {k cap n : Nat} {xs : List Value} (h : w.ownsRow B e size (.slice ao k cap) n xs) : k = n := by
 rcases h.2 with ⟨h1,h2⟩ | ⟨g,cap,cur,h1,_⟩
 ·simp only [Value.slice.injEq] at h1; omega
 ·simp only [Value.slice.injEq] at h1; exact h1.2.1
theorem own_far2 {w : World} {B : Nat} {e : TypeId} {size : Nat} {v : Value} {n : Nat} {xs : List Value} (h : w.ownsRow B e size v n xs) {H : Nat} {cs : Array Value} {t : TypeId} {fr : Nat × Nat} (ht : t ≠ e) (hH : w.heap[H]? = some (.cells cs t fr)) : v.ownBlock ≠ some H := by
 intro e2
 rcases h.2 with ⟨h0,_⟩ | ⟨g,cap,cur,h1,h2,h3,h4⟩
 ·rw [h0] at e2; cases e2
 ·rw [h1] at e2
  simp [Value.ownBlock] at e2
  subst e2
  rw [hH] at h3
  simp at h3
  exact ht h3.2.1
theorem own_tag {w : World} {B sz n : Nat} {t : TypeId} {v : Value} {xs : List Value} (h : w.ownsRow B t sz v n xs) {i : Nat} (e : v.ownBlock = some i) : ∃ cs,w.heap[i]? = some (.cells cs t (0,0)) := by
 rcases h.2 with ⟨h0,_⟩ | ⟨g,cap,cur,h1,h2,h3,h4⟩
 ·rw [h0] at e; cases e
 ·rw [h1] at e
  simp [Value.ownBlock] at e
  subst e
  exact ⟨_,h3⟩
theorem SyG.form {w : World} {B : Nat} {G : SyG} {R : List Rw} (h : Flat w B (G.rows ++ R)) : ∃ eo ec xo xc,G.ob.v = .slice eo G.ob.xs.length ec ∧ G.tm.v = .slice xo G.tm.xs.length xc := by
 obtain ⟨eo,ec,xo,xc,ev,_,_⟩ := SyG.read h.left
 simp only [SyG.val,Value.agg.injEq] at ev
 have ev0 := congrArg Array.toList ev
 simp only [List.cons.injEq,true_and,and_true] at ev0
 exact ⟨eo,ec,xo,xc,ev0.1,ev0.2⟩
end Go.Proofs.YtkdgkomnbjepdaaGreatDoor

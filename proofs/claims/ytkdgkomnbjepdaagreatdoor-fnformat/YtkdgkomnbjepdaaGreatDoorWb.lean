import Derived.Test.YtkdgkomnbjepdaaGreatDoorWa
namespace Go.Proofs.YtkdgkomnbjepdaaGreatDoor
open Go.RowKit Go.Sort
set_option linter.unusedVariables false
structure Bm (B : Nat) (w w' : World) : Prop where
 lo : Below B w w'
 mp : ∀ (b : Nat) (es : Array MapEntry) (n : Nat),w.heap[b]? = some (.map es n) → w'.heap[b]? = some (.map es n)
section
variable {B : Nat} {w w' a b c : World}
theorem Bm.refl (B : Nat) (w : World) : Bm B w w := ⟨Below.refl _ _,fun _ _ _ h => h⟩
theorem Bm.trans (h : Bm B a b) (k : Bm B b c) : Bm B a c := ⟨h.lo.trans k.lo,fun i es n e => k.mp i es n (h.mp i es n e)⟩
theorem Bm.new (h : Below w.heap.size w w') (hB : B ≤ w.heap.size) : Bm B w w' := ⟨h.mono hB,fun i es n e => (h.block i (lt_of_block e)).trans e⟩
theorem Bm.tn {S : Nat → Prop} (h : Tn S w w') (hB : B ≤ w.heap.size) (hS : ∀ b,S b → B ≤ b) (hc : ∀ b,S b → ∀ es n,w.heap[b]? ≠ some (.map es n)) : Bm B w w' :=
 ⟨h.below hB hS,fun i es n e => (h.block i (lt_of_block e) (fun s => hc i s es n e)).trans e⟩
theorem Bm.grown {r : Rw} {R : List Rw} (h : Flat w B (r :: R)) (hB : B ≤ w.heap.size) (hg : w.grownBy w' r.v.ownBlock) : Bm B w w' :=
 ⟨⟨hg.os,hg.tape,hg.output,hg.size,fun i hi => hg.block i (by omega) (fun e => by have := (h.head.lt i e.symm).1; omega)⟩,fun i es n e => (hg.block i (lt_of_block e) (fun e2 => by
  obtain ⟨cs,h2⟩ := own_tag h.head e2.symm
  rw [h2] at e; cases e)).trans e⟩
end
def NoF (L : List Rw) : Prop := ∀ r ∈ L,r.t ≠ 9 ∧ r.t ≠ 168
theorem NoF.perm {L L' : List Rw} (h : NoF L) (hp : L.Perm L') : NoF L' := fun r hr => h r (hp.mem_iff.2 hr)
theorem NoF.cons {r : Rw} {L : List Rw} (h : NoF L) (h1 : r.t ≠ 9) (h2 : r.t ≠ 168) : NoF (r :: L) := by
 intro x hx
 rcases List.mem_cons.1 hx with rfl | hx
 ·exact ⟨h1,h2⟩
 ·exact h x hx
theorem NoF.app {L L' : List Rw} (h : NoF L) (h' : NoF L') : NoF (L ++ L') := fun r hr => by
 rcases List.mem_append.1 hr with hr | hr
 ·exact h r hr
 ·exact h' r hr
theorem NoF.tail {r : Rw} {L : List Rw} (h : NoF (r :: L)) : NoF L := fun x hx => h x (List.mem_cons_of_mem _ hx)
theorem FAt.cs {w : World} {F : Nat} {fs : List (List UInt8)} {bad : Bool} (h : FAt w F fs bad) : ∃ cs,w.heap[F]? = some (.cells cs 168 (0,0)) := by
 obtain ⟨_,_,_,_,h,_⟩ := h
 exact ⟨_,h⟩
theorem Flat.tnF {w w' : World} {B F : Nat} {L : List Rw} {fs : List (List UInt8)} {bad : Bool} (h : Flat w B L) (hn : NoF L) (hf : FAt w F fs bad) (ht : Tn (· = F) w w') : Flat w' B L :=
 h.keep (fun r hr b hl hb => ht.block b hl (fun e => by
  obtain ⟨cs,h1⟩ := own_tag (h.own r hr) hb
  obtain ⟨cs2,h2⟩ := hf.cs
  rw [e,h2] at h1
  simp at h1
  exact (hn r hr).2 h1.2.symm))
theorem FAt.row {w w' : World} {B F : Nat} {r : Rw} {fs : List (List UInt8)} {bad : Bool} (h : FAt w F fs bad) (hr : r.own w B) (hn : r.t ≠ 9 ∧ r.t ≠ 168) (hg : w.grownBy w' r.v.ownBlock) : FAt w' F fs bad := by
 refine h.tn (S := fun b => r.v.ownBlock = some b) ⟨hg.os,hg.tape,hg.output,hg.size,fun b hb hs => hg.block b hb (fun e => hs e.symm)⟩ ?_ ?_
 ·intro e
  obtain ⟨cs,h1⟩ := own_tag hr e
  obtain ⟨cs2,h2⟩ := h.cs
  rw [h2] at h1
  simp at h1
  exact hn.2 h1.2.symm
 ·intro b e cs fr h2
  obtain ⟨cs',h1⟩ := own_tag hr e
  rw [h2] at h1
  simp at h1
  exact hn.1 h1.2.1.symm
structure Vr (w : World) : Prop where
 v : Vars w
 it : ∃ t f,w.heap[5]? = some (.cells wordsC t f)
 fm : ∃ t f,w.heap[8]? = some (.cells formsC t f)
theorem Vr.tn {S : Nat → Prop} {w w' : World} (h : Vr w) (ht : Tn S w w') (hs : ∀ g,g ≤ 12 → ¬ S g) : Vr w' := by
 obtain ⟨t1,f1,h1⟩ := h.it
 obtain ⟨t2,f2,h2⟩ := h.fm
 exact ⟨h.v.tn ht hs,⟨t1,f1,ht.at h1 (hs _ (by decide))⟩,⟨t2,f2,ht.at h2 (hs _ (by decide))⟩⟩
theorem Vr.below {B : Nat} {w w' : World} (h : Vr w) (hb : Below B w w') (hB : 12 < B) (hw : B ≤ w.heap.size) : Vr w' :=
 h.tn (S := fun i => B ≤ i) ⟨hb.os,hb.tape,hb.output,hb.size,fun i _ hs => hb.block i (by omega)⟩ (fun g hg => by omega)
structure St (w : World) (B F : Nat) (fs : List (List UInt8)) (bad : Bool) (L : List Rw) : Prop where
 vars : Vr w
 flat : Flat w B L
 fat : FAt w F fs bad
 nof : NoF L
 lo : 12 < B
 hi : B ≤ w.heap.size
 hF : B ≤ F
 len : ∀ f ∈ fs,f.length ≤ 1048576
section
variable {w w' : World} {B F : Nat} {fs fs' : List (List UInt8)} {bad bad' : Bool} {L L' : List Rw} {r : Rw}
theorem St.perm (h : St w B F fs bad L) (hp : L.Perm L') : St w B F fs bad L' := ⟨h.vars,h.flat.perm hp,h.fat,h.nof.perm hp,h.lo,h.hi,h.hF,h.len⟩
theorem St.new (h : St w B F fs bad L) (hb : Below w.heap.size w w') : St w' B F fs bad L :=
 ⟨h.vars.below hb (Nat.lt_of_lt_of_le h.lo h.hi) (Nat.le_refl _),h.flat.below hb,h.fat.below hb,h.nof,h.lo,Nat.le_trans h.hi hb.size,h.hF,h.len⟩
theorem St.drew (h : St w B F fs bad L) : St w.drew B F fs bad L := h.new (Below.refl _ _).drew
theorem St.bnew (h : St w B F fs bad L) (hb : Below w.heap.size w w') : Bm B w w' := Bm.new hb h.hi
theorem St.rd (h : St w B F fs bad L) (hf : FAt w' F fs' bad') (ht : Tn (· = F) w w') (hl : ∀ f ∈ fs',f.length ≤ 1048576) : St w' B F fs' bad' L :=
 ⟨h.vars.tn ht (fun g hg e => by have := h.lo; have := h.hF; omega),h.flat.tnF h.nof h.fat ht,hf,h.nof,h.lo,Nat.le_trans h.hi ht.size,h.hF,hl⟩
theorem St.brd (h : St w B F fs bad L) (ht : Tn (· = F) w w') : Bm B w w' :=
 Bm.tn ht h.hi (fun b e => by rw [e]; exact h.hF) (fun b e es n h2 => by
  obtain ⟨cs,h1⟩ := h.fat.cs
  rw [e,h1] at h2; cases h2)
theorem St.nums (h : St w B F fs bad L) : ∀ f ∈ fs.tail,f.length ≤ 1048576 := fun f hf => h.len f (List.mem_of_mem_tail hf)
theorem St.turn {v' : Value} {n' : Nat} {xs' : List Value} (h : St w B F fs bad (r :: L)) (hg : w.grownBy w' r.v.ownBlock) (hn : w'.ownsRow B r.t r.sz v' n' xs') (hat : ∀ g,v'.ownBlock = some g → r.v.ownBlock = some g ∨ w.heap.size ≤ g) : St w' B F fs bad (⟨r.t,r.sz,v',n',xs'⟩ :: L) :=
 ⟨h.vars.below (Bm.grown h.flat h.hi hg).lo h.lo h.hi,h.flat.turn hg hn hat,h.fat.row h.flat.head (h.nof r (List.mem_cons_self ..)) hg,h.nof.tail.cons (h.nof r (List.mem_cons_self ..)).1 (h.nof r (List.mem_cons_self ..)).2,h.lo,Nat.le_trans h.hi hg.size,h.hF,h.len⟩
theorem St.app {t : TypeId} {sz n m g cap : Nat} {v : Value} {xs ys : List Value} (h : St w B F fs bad (⟨t,sz,v,n,xs⟩ :: L)) (hg : w.grownBy w' v.ownBlock) (hn : w'.ownsRow B t sz (.slice (some ⟨g,0,none⟩) m cap) m ys) (hat : v.ownBlock = some g ∨ g = w.heap.size) : St w' B F fs bad (⟨t,sz,.slice (some ⟨g,0,none⟩) m cap,m,ys⟩ :: L) :=
 h.turn hg hn (fun g' e => by
  simp [Value.ownBlock] at e
  subst e
  rcases hat with e | e
  ·exact .inl e
  ·exact .inr (by omega))
theorem St.bapp {t : TypeId} {sz n : Nat} {v : Value} {xs : List Value} (h : St w B F fs bad (⟨t,sz,v,n,xs⟩ :: L)) (hg : w.grownBy w' v.ownBlock) : Bm B w w' := Bm.grown h.flat h.hi hg
theorem St.set {t : TypeId} {sz g n cap : Nat} {xs : List Value} (h : St w B F fs bad (⟨t,sz,.slice (some ⟨g,0,none⟩) n cap,n,xs⟩ :: L)) (j : Nat) (u : Value) : St (w.setCell ⟨g,j,none⟩ u) B F fs bad (⟨t,sz,.slice (some ⟨g,0,none⟩) n cap,n,xs.set j u⟩ :: L) := by
 obtain ⟨h1,h2⟩ := h.flat.head.stored j u
 exact h.turn h2 h1 (fun _ e => .inl e)
theorem St.bset {t : TypeId} {sz g n cap : Nat} {xs : List Value} (h : St w B F fs bad (⟨t,sz,.slice (some ⟨g,0,none⟩) n cap,n,xs⟩ :: L)) (j : Nat) (u : Value) : Bm B w (w.setCell ⟨g,j,none⟩ u) := by
 obtain ⟨h1,h2⟩ := h.flat.head.stored j u
 exact Bm.grown h.flat h.hi h2
theorem St.setEl {α : Type} (c : α → List Value) (sz : Nat) (hc : ∀ x,(c x).length = sz) {t : TypeId} {g n cap : Nat} {p : List α} {x x' : α} {q : List α} (h : St w B F fs bad (⟨t,sz,.slice (some ⟨g,0,none⟩) n cap,n,(p ++ x :: q).flatMap c⟩ :: L)) (j : Nat) (u : Value) (hj : j < sz) (hx : (c x).set j u = c x') : St (w.setCell ⟨g,p.length * sz + j,none⟩ u) B F fs bad (⟨t,sz,.slice (some ⟨g,0,none⟩) n cap,n,(p ++ x' :: q).flatMap c⟩ :: L) := by
 have := h.set (p.length * sz + j) u
 rw [mid_set c sz hc p x x' q j u hj hx] at this
 exact this
theorem St.setBox {t : TypeId} {H : Nat} {xs : List Value} (h : St w B F fs bad (boxR t H xs :: L)) (j : Nat) (u : Value) : St (w.setCell ⟨H,j,none⟩ u) B F fs bad (boxR t H (xs.set j u) :: L) := by
 have := h.set (g := H) (n := 1) (cap := 1) j u
 simpa [boxR] using this
theorem St.bsetBox {t : TypeId} {H : Nat} {xs : List Value} (h : St w B F fs bad (boxR t H xs :: L)) (j : Nat) (u : Value) : Bm B w (w.setCell ⟨H,j,none⟩ u) := h.bset (g := H) (n := 1) (cap := 1) j u
theorem St.box (h : St w B F fs bad L) (t : TypeId) (xs : List Value) (h1 : t ≠ 9) (h2 : t ≠ 168) : St (w.alloc (.cells xs.toArray t)) B F fs bad (boxR t w.heap.size xs :: L) := by
 have h3 := h.new (below1 w (.cells xs.toArray t))
 exact ⟨h3.vars,h.flat.box h.hi t xs,h3.fat,h.nof.cons h1 h2,h3.lo,h3.hi,h3.hF,h3.len⟩
theorem St.own (h : St w B F fs bad L) (hm : r ∈ L) : r.own w B := h.flat.own r hm
end
theorem St.number {w : World} {B F : Nat} {fs : List (List UInt8)} {bad : Bool} {L : List Rw} (h : St w B F fs bad L) : Calls Tryz.prog 85 #[.pointer (some ⟨F,0,none⟩)] w fun e w' => e = .returned (.int .i64 (rdN fs)) ∧ St w' B F fs.tail (bad || !okN fs) L ∧ Bm B w w' := by
 refine (number_any F fs bad w h.vars.v (by have := h.lo; have := h.hF; omega) h.len h.fat).mono ?_
 rintro e w' ⟨h1,h2,h3⟩
 exact ⟨h1,h.rd h2 h3 h.nums,h.brd h3⟩
end Go.Proofs.YtkdgkomnbjepdaaGreatDoor
namespace Go.Proofs.YtkdgkomnbjepdaaGreatDoor
open Go.RowKit Go.Sort
set_option linter.unusedVariables false
attribute [local go_sem ↓] Go.wp_at_zero Go.wp_at_succ
theorem placeN_first : ∀ (l : List (List UInt8)) (x : List UInt8) (k i : Nat),i < l.length → (∀ j,j < i → ¬ l.getD j [] = x) → l.getD i [] = x → placeN l x k = (k + i : Nat)
 | [],x,k,i,h,_,_ => by simp at h
 | f :: r,x,k,0,h,_,h2 => by
  unfold placeN
  rw [if_pos (by simpa using h2)]; rfl
 | f :: r,x,k,i + 1,h,h1,h2 => by
  unfold placeN
  rw [if_neg (by simpa using h1 0 (by omega)),placeN_first r x (k + 1) i (by simpa using h) (fun j hj => by simpa using h1 (j + 1) (by omega)) (by simpa using h2)]
  congr 1; omega
theorem placeN_none (l : List (List UInt8)) (x : List UInt8) (k : Nat) (h : ∀ j,j < l.length → ¬ l.getD j [] = x) : ¬ 0 ≤ placeN l x k :=
 placeN_out l x k (fun f hf => by
  obtain ⟨j,hj,rfl⟩ := List.mem_iff_getElem.1 hf
  have := h j hj
  simpa [List.getD_eq_getElem?_getD,hj] using this)
set_option maxRecDepth 100000 in
theorem word_at : ∀ k,k < 23 → wordsL.getD k [] = wordT (itO k) (itV k) := by
 intro k hk
 have : k = 0 ∨ k = 1 ∨ k = 2 ∨ k = 3 ∨ k = 4 ∨ k = 5 ∨ k = 6 ∨ k = 7 ∨ k = 8 ∨ k = 9 ∨ k = 10 ∨ k = 11 ∨ k = 12 ∨ k = 13 ∨ k = 14 ∨ k = 15 ∨ k = 16 ∨ k = 17 ∨ k = 18 ∨ k = 19 ∨ k = 20 ∨ k = 21 ∨ k = 22 := by omega
 rcases this with rfl | rfl | rfl | rfl | rfl | rfl | rfl | rfl | rfl | rfl | rfl | rfl | rfl | rfl | rfl | rfl | rfl | rfl | rfl | rfl | rfl | rfl | rfl <;> rfl
theorem two_set {w : World} {H : Nat} {a b : Value} {t : TypeId} (k : w.heap[H]? = some (.cells #[a,b] t (0,0))) (v0 v1 : Value) : ((w.setCell ⟨H,0,none⟩ v0).setCell ⟨H,1,none⟩ v1).heap[H]? = some (.cells #[v0,v1] t (0,0)) := by
 have h0 := heap_setCell_same w H 0 _ _ v0 k
 have h1 := heap_setCell_same _ H 1 _ _ v1 h0
 simpa using h1
theorem pre_v (l : List UInt8) : Lib.hasPrefix l [118] = decide (l.head? = some 118) := by
 cases l with
 | nil => rfl
 | cons c r =>
  simp [Lib.hasPrefix,List.isPrefixOf]
  by_cases h : c = 118
  ·subst h; rfl
  ·rw [decide_eq_false h,beq_eq_false_iff_ne]; exact fun e => h e.symm
theorem trim_v (l : List UInt8) (h : l.head? = some 118) : Lib.trimPrefix l [118] = l.tail := by
 cases l with
 | nil => simp at h
 | cons c r => simp at h; subst h; rfl
set_option maxRecDepth 100000 in
set_option maxHeartbeats 4000000 in
theorem itemOf_any (s : ByteArray) (hs : s.size ≤ 1048576) (w : World) (hv : Vr w) (hB : 12 < w.heap.size) :
  Calls Tryz.prog 116 #[.string s] w fun e w' => e = .returned (.tuple #[.agg #[.int .i64 (rdI (bl s)).1,.int .i64 (rdI (bl s)).2],.bool (okI (bl s))]) ∧ Below w.heap.size w w' := by
 obtain ⟨tg,fr,hT⟩ := hv.it
 obtain ⟨Z,hZ⟩ : ∃ Z,Z = w.alloc (.cells #[.int .i64 0,.int .i64 0] 107) := ⟨_,rfl⟩
 have BZ0 : Below w.heap.size w Z := by rw [hZ]; exact below1 _ _
 have HT := hid (block_below hT (below1 w (.cells #[.int .i64 0,.int .i64 0] 107)))
 have HN := hid (heap_alloc_new w (.cells #[.int .i64 0,.int .i64 0] 107))
 rw [← hZ] at HN
 have HS : Hid (wordsC.size = 69) := hid (by decide)
 have IX := hid words_at
 obtain ⟨FT,hFT⟩ : ∃ F,F = wordsC := ⟨_,rfl⟩
 rw [← hFT] at HT HS IX
 have BZ := hid BZ0
 have HZ := hid hZ
 have HV := hid hv
 clear hT hFT BZ0 hZ hv
 go_enter Tryz.func116,Tryz.ntmps116
 go_wp2_with (refine wpList_load_row rfl 212 _ rfl 5 rfl _ FT fr _ HT.out Tryz.underlying212 rfl (by rw [HS.out]; exact wordsC_size) ?_)
 rw [← HZ.out]
 obtain ⟨P0,hP0⟩ : ∃ P,P = w.heap.size := ⟨_,rfl⟩
 have HN' : Hid (Z.heap[P0]? = some (.cells #[.int .i64 0,.int .i64 0] 107 (0,0))) := hid (by rw [hP0]; exact HN.out)
 have hPw : Hid (w.heap.size ≤ P0) := hid (by omega)
 rw [← hP0]
 clear hP0 HN HT
 go_loopw [13] (fun i wr => ∃ (k : Nat),k ≤ 23 ∧ i = .int .i64 k ∧ Hid (∀ j,j < k → ¬ wordsL.getD j [] = bl s) ∧ Below Z.heap.size Z wr) (fun i _ => 23 - (intOf i).toNat)
 case atStart => exact ⟨0,Nat.zero_le _,rfl,hid (fun j hj => by omega),Below.refl _ _⟩
 case round =>
  obtain ⟨k,hk,rfl,hno,hb⟩ := hrel
  have HB := hid hb
  have X1 := hid (block_below HN'.out hb)
  obtain ⟨q0,q1,f0,f1⟩ := two_cc X1.out
  have ql := lt_of_block X1.out
  have BW : Hid (Below w.heap.size w wr) := hid (BZ.out.trans (hb.mono BZ.out.size))
  by_cases hlt : k < 23
  ·have hlt' : (k : Int) < 23 := by omega
   have ix := IX.out k hlt
   have WA := hid (word_at k hlt)
   obtain ⟨tk,htk⟩ : ∃ t : ByteArray,t = ⟨(wordT (itO k) (itV k)).toArray⟩ := ⟨_,rfl⟩
   rw [← htk] at ix
   have TE : Hid ((wordsL.getD k [] = bl s) ↔ tk = s) := hid (by rw [htk,WA.out]; exact ba_bl.symm)
   clear hb htk WA
   by_cases he : tk = s
   ·have PL : Hid (placeN wordsL (bl s) 0 = (k : Nat)) := hid (by rw [placeN_first wordsL (bl s) 0 k (by show k < 23; exact hlt) hno.out (TE.out.2 he),Nat.zero_add])
    have R1 : Hid (rdI (bl s) = (itO k,itV k)) := hid (by unfold rdI; rw [PL.out,if_pos (Int.natCast_nonneg k),Int.toNat_natCast])
    have R2 : Hid (okI (bl s) = true) := hid (by unfold okI; rw [PL.out,if_pos (Int.natCast_nonneg k)])
    subst he
    have U := hid (two_cc (block_below (two_set X1.out (.int .i64 (itO k)) (.int .i64 (itV k))) (below1 _ (.cells #[.string tk,.int .i64 (itO k),.int .i64 (itV k)] 211))))
    go_wp2
    obtain ⟨u0,u1,_,_⟩ := U.out
    rw [R1.out,R2.out]
    refine bodyPost_ret (v := .tuple #[.agg #[.int .i64 (itO k),.int .i64 (itV k)],.bool true]) (by simp [results,Tryz.results116,go_sem,u0,u1]) rfl ⟨rfl,?_⟩
    have hb5 := (BW.out.setCell (p := ⟨P0,0,none⟩) hPw.out (.int .i64 (itO k))).setCell (p := ⟨P0,1,none⟩) hPw.out (.int .i64 (itV k))
    exact hb5.alloc hb5.size _
   ·have hts' := str_ne he
    have hts2 : ¬ tk.toList = s.toList := by simpa using hts'
    have HE := hid he
    clear he
    go_wp2
    go_roundw
    case rel =>
     refine ⟨k + 1,by omega,by go_num,hid (fun j hj => ?_),HB.out.trans ((below1 wr _).mono HB.out.size)⟩
     by_cases hjk : j < k
     ·exact hno.out j hjk
     ·obtain rfl : j = k := by omega
      exact fun e => HE.out (TE.out.1 e)
    case measure => simp [intOf]; omega
  ·have hlt' : ¬ (k : Int) < 23 := by omega
   have e23 : k = 23 := by omega
   have PN : Hid (¬ 0 ≤ placeN wordsL (bl s) 0) := hid (placeN_none _ _ _ (fun j hj => hno.out j (by rw [e23]; exact hj)))
   subst e23
   clear hb
   have CP : Hid (∀ W,Calls Tryz.prog 136 #[.string s,.string ⟨#[118]⟩] W fun e w' => e = .returned (.tuple #[.string ⟨(Lib.trimPrefix (bl s) [118]).toArray⟩,.bool (decide ((bl s).head? = some 118))]) ∧ w' = W) := hid (fun W => by
    have := Tryz.strings_CutPrefix s ⟨#[118]⟩ W
    rw [← pre_v]
    exact this)
   have NV := hid (fun t (ht : t.size ≤ 1048576) W (hW : Below w.heap.size w W) => numberOf_any t ht W (HV.out.below hW hB (Nat.le_refl _)).v (Nat.lt_of_lt_of_le hB hW.size))
   by_cases h118 : (bl s).head? = some 118
   ·have R1 : Hid (rdI (bl s) = (2,(num? (bl s).tail).getD 0)) := hid (by unfold rdI; rw [if_neg PN.out,if_pos h118])
    have R2 : Hid (okI (bl s) = ((num? (bl s).tail).isSome && decide (0 ≤ (num? (bl s).tail).getD 0))) := hid (by unfold okI; rw [if_neg PN.out,if_pos h118])
    obtain ⟨t,ht⟩ : ∃ t : ByteArray,t = ⟨(Lib.trimPrefix (bl s) [118]).toArray⟩ := ⟨_,rfl⟩
    have CP' : Hid (∀ W,Calls Tryz.prog 136 #[.string s,.string ⟨#[118]⟩] W fun e w' => e = .returned (.tuple #[.string t,.bool true]) ∧ w' = W) := hid (fun W => by have := CP.out W; rw [← ht,decide_eq_true h118] at this; exact this)
    have hbt : (bl s).tail = bl t := by rw [← trim_v _ h118]; exact ba_bl.1 ht.symm
    have hts : t.size ≤ 1048576 := by rw [← bl_len,← hbt,List.length_tail,bl_len]; omega
    rw [hbt] at R1 R2
    have NV' := hid (fun W hW => NV.out t hts W hW)
    obtain ⟨ok,hok⟩ : ∃ b,b = (num? (bl t)).isSome := ⟨_,rfl⟩
    obtain ⟨n,hn⟩ : ∃ b,b = (num? (bl t)).getD 0 := ⟨_,rfl⟩
    rw [← hok,← hn] at NV' R2
    rw [← hn] at R1
    clear CP NV ht h118 hbt hok hn PN
    cases ok with
    | true =>
     go_wp2_with (first
      | (go_at_call 136; with_reducible refine (CP'.out _).mono ?_; rintro e w1 ⟨rfl,hw1⟩; obtain rfl := hw1.symm)
      | (go_at_call 114; with_reducible refine (NV'.out _ BW.out).mono ?_; rintro e w2 ⟨rfl,hb2⟩; have B2 := hid hb2; have X2 := hid (block_below X1.out hb2); obtain ⟨p0,p1,p2,p3⟩ := two_cc X2.out; have pl := lt_of_block X2.out; clear hb2))
     obtain ⟨u0,u1,_,_⟩ := two_cc (two_set X2.out (.int .i64 2) (.int .i64 n))
     rw [R1.out,R2.out]
     refine bodyPost_ret (v := .tuple #[.agg #[.int .i64 2,.int .i64 n],.bool (decide (0 ≤ n))]) (by simp [results,Tryz.results116,go_sem,u0,u1]) (by simp) ⟨by simp,?_⟩
     have hb3 : Below w.heap.size w w2 := BW.out.trans (B2.out.mono BW.out.size)
     exact (hb3.setCell (p := ⟨P0,0,none⟩) hPw.out _).setCell (p := ⟨P0,1,none⟩) hPw.out _
    | false =>
     go_wp2_with (first
      | (go_at_call 136; with_reducible refine (CP'.out _).mono ?_; rintro e w1 ⟨rfl,hw1⟩; obtain rfl := hw1.symm)
      | (go_at_call 114; with_reducible refine (NV'.out _ BW.out).mono ?_; rintro e w2 ⟨rfl,hb2⟩; have B2 := hid hb2; have X2 := hid (block_below X1.out hb2); obtain ⟨p0,p1,p2,p3⟩ := two_cc X2.out; have pl := lt_of_block X2.out; clear hb2))
     obtain ⟨u0,u1,_,_⟩ := two_cc (two_set X2.out (.int .i64 2) (.int .i64 n))
     rw [R1.out,R2.out]
     refine bodyPost_ret (v := .tuple #[.agg #[.int .i64 2,.int .i64 n],.bool false]) (by simp [results,Tryz.results116,go_sem,u0,u1]) (by simp) ⟨by simp,?_⟩
     have hb3 : Below w.heap.size w w2 := BW.out.trans (B2.out.mono BW.out.size)
     exact (hb3.setCell (p := ⟨P0,0,none⟩) hPw.out _).setCell (p := ⟨P0,1,none⟩) hPw.out _
   ·have R1 : Hid (rdI (bl s) = (1,(num? (bl s)).getD 0)) := hid (by unfold rdI; rw [if_neg PN.out,if_neg h118])
    have R2 : Hid (okI (bl s) = (num? (bl s)).isSome) := hid (by unfold okI; rw [if_neg PN.out,if_neg h118])
    obtain ⟨t,ht⟩ : ∃ t : ByteArray,t = ⟨(Lib.trimPrefix (bl s) [118]).toArray⟩ := ⟨_,rfl⟩
    have CP' : Hid (∀ W,Calls Tryz.prog 136 #[.string s,.string ⟨#[118]⟩] W fun e w' => e = .returned (.tuple #[.string t,.bool false]) ∧ w' = W) := hid (fun W => by have := CP.out W; rw [← ht,decide_eq_false h118] at this; exact this)
    have NV' := hid (fun W hW => NV.out s hs W hW)
    obtain ⟨ok,hok⟩ : ∃ b,b = (num? (bl s)).isSome := ⟨_,rfl⟩
    obtain ⟨n,hn⟩ : ∃ b,b = (num? (bl s)).getD 0 := ⟨_,rfl⟩
    rw [← hok,← hn] at NV'
    rw [← hok] at R2
    rw [← hn] at R1
    clear CP NV ht h118 hok hn PN
    go_wp2_with (first
      | (go_at_call 136; with_reducible refine (CP'.out _).mono ?_; rintro e w1 ⟨rfl,hw1⟩; obtain rfl := hw1.symm)
      | (go_at_call 114; with_reducible refine (NV'.out _ BW.out).mono ?_; rintro e w2 ⟨rfl,hb2⟩; have B2 := hid hb2; have X2 := hid (block_below X1.out hb2); obtain ⟨p0,p1,p2,p3⟩ := two_cc X2.out; have pl := lt_of_block X2.out; clear hb2))
    obtain ⟨u0,u1,_,_⟩ := two_cc (two_set X2.out (.int .i64 1) (.int .i64 n))
    rw [R1.out,R2.out]
    refine bodyPost_ret (v := .tuple #[.agg #[.int .i64 1,.int .i64 n],.bool ok]) (by simp [results,Tryz.results116,go_sem,u0,u1]) (by simp) ⟨by simp,?_⟩
    have hb3 : Below w.heap.size w w2 := BW.out.trans (B2.out.mono BW.out.size)
    exact (hb3.setCell (p := ⟨P0,0,none⟩) hPw.out _).setCell (p := ⟨P0,1,none⟩) hPw.out _
end Go.Proofs.YtkdgkomnbjepdaaGreatDoor
namespace Go.Proofs.YtkdgkomnbjepdaaGreatDoor
open Go.RowKit Go.Sort
set_option linter.unusedVariables false
attribute [local go_sem ↓] Go.wp_at_zero Go.wp_at_succ
theorem formC_is (k : Nat) (h : k < 9) : formC2 k = formC ((k : Int) + 1) := by
 have : k = 0 ∨ k = 1 ∨ k = 2 ∨ k = 3 ∨ k = 4 ∨ k = 5 ∨ k = 6 ∨ k = 7 ∨ k = 8 := by omega
 rcases this with rfl | rfl | rfl | rfl | rfl | rfl | rfl | rfl | rfl <;> decide
theorem stm_at (k : Nat) (h : k < 9) : stmsL.getD k [] = stmName ((k : Int) + 1) := by
 have : k = 0 ∨ k = 1 ∨ k = 2 ∨ k = 3 ∨ k = 4 ∨ k = 5 ∨ k = 6 ∨ k = 7 ∨ k = 8 := by omega
 rcases this with rfl | rfl | rfl | rfl | rfl | rfl | rfl | rfl | rfl <;> rfl
set_option maxRecDepth 100000 in
set_option maxHeartbeats 4000000 in
theorem formOfWord_any (s : ByteArray) (w : World) (hv : Vr w) :
  Calls Tryz.prog 117 #[.string s] w fun e w' => (∃ nm : ByteArray,e = .returned (.tuple #[.agg #[.int .i64 (kindO (bl s)),.string nm,.bool (giveA (kindO (bl s))),.bool (giveB (kindO (bl s))),.bool (formC (kindO (bl s)))],.bool (decide (0 ≤ placeN stmsL (bl s) 0))])) ∧ Below w.heap.size w w' := by
 obtain ⟨tg,fr,hT⟩ := hv.fm
 obtain ⟨Z,hZ⟩ : ∃ Z,Z = w.alloc (.cells #[.int .i64 0,.string ⟨#[]⟩,.bool false,.bool false,.bool false] 214) := ⟨_,rfl⟩
 have BZ0 : Below w.heap.size w Z := by rw [hZ]; exact below1 _ _
 have HT := hid (block_below hT (below1 w (.cells #[.int .i64 0,.string ⟨#[]⟩,.bool false,.bool false,.bool false] 214)))
 have HN := hid (heap_alloc_new w (.cells #[.int .i64 0,.string ⟨#[]⟩,.bool false,.bool false,.bool false] 214))
 rw [← hZ] at HN
 have HS : Hid (formsC.size = 45) := hid (by decide)
 have IX := hid forms_at
 obtain ⟨FT,hFT⟩ : ∃ F,F = formsC := ⟨_,rfl⟩
 rw [← hFT] at HT HS IX
 have BZ := hid BZ0
 have HZ := hid hZ
 clear hT hFT BZ0 hZ hv
 go_enter Tryz.func117,Tryz.ntmps117
 go_wp2_with (refine wpList_load_row rfl 238 _ rfl 8 rfl _ FT fr _ HT.out Tryz.underlying238 rfl (by rw [HS.out]; exact formsC_size) ?_)
 rw [← HZ.out]
 obtain ⟨P0,hP0⟩ : ∃ P,P = w.heap.size := ⟨_,rfl⟩
 have HN' : Hid (Z.heap[P0]? = some (.cells #[.int .i64 0,.string ⟨#[]⟩,.bool false,.bool false,.bool false] 214 (0,0))) := hid (by rw [hP0]; exact HN.out)
 have hPw : Hid (w.heap.size ≤ P0) := hid (by omega)
 rw [← hP0]
 clear hP0 HN HT
 go_loopw [7] (fun i wr => ∃ (k : Nat),k ≤ 9 ∧ i = .int .i64 k ∧ Hid (∀ j,j < k → ¬ stmsL.getD j [] = bl s) ∧ Below Z.heap.size Z wr) (fun i _ => 9 - (intOf i).toNat)
 case atStart => exact ⟨0,Nat.zero_le _,rfl,hid (fun j hj => by omega),Below.refl _ _⟩
 case round =>
  obtain ⟨k,hk,rfl,hno,hb⟩ := hrel
  have HB := hid hb
  have X1 := hid (block_below HN'.out hb)
  obtain ⟨q0,q1,q2,q3,q4⟩ := five_cc X1.out
  have ql := lt_of_block X1.out
  have f0 : wr.frozen? ⟨P0,0,none⟩ = false := Lib.frozen_of_heap X1.out 0
  have f1 : wr.frozen? ⟨P0,1,none⟩ = false := Lib.frozen_of_heap X1.out 1
  have f2 : wr.frozen? ⟨P0,2,none⟩ = false := Lib.frozen_of_heap X1.out 2
  have f3 : wr.frozen? ⟨P0,3,none⟩ = false := Lib.frozen_of_heap X1.out 3
  have f4 : wr.frozen? ⟨P0,4,none⟩ = false := Lib.frozen_of_heap X1.out 4
  have BW : Hid (Below w.heap.size w wr) := hid (BZ.out.trans (hb.mono BZ.out.size))
  by_cases hlt : k < 9
  ·have hlt' : (k : Int) < 9 := by omega
   have ix := IX.out k hlt
   have WA := hid (stm_at k hlt)
   obtain ⟨tk,htk⟩ : ∃ t : ByteArray,t = ⟨(stmName ((k : Int) + 1)).toArray⟩ := ⟨_,rfl⟩
   rw [← htk] at ix
   have TE : Hid ((stmsL.getD k [] = bl s) ↔ tk = s) := hid (by rw [htk,WA.out]; exact ba_bl.symm)
   have FC := hid (formC_is k hlt)
   obtain ⟨gA,hgA⟩ : ∃ b,b = giveA ((k : Int) + 1) := ⟨_,rfl⟩
   obtain ⟨gB,hgB⟩ : ∃ b,b = giveB ((k : Int) + 1) := ⟨_,rfl⟩
   obtain ⟨gC,hgC⟩ : ∃ b,b = formC2 k := ⟨_,rfl⟩
   rw [← hgA,← hgB,← hgC] at ix
   have GA := hid hgA
   have GB := hid hgB
   have GC : Hid (gC = formC ((k : Int) + 1)) := hid (by rw [hgC]; exact FC.out)
   clear hb htk WA FC hgA hgB hgC
   by_cases he : tk = s
   ·have PL : Hid (placeN stmsL (bl s) 0 = (k : Nat)) := hid (by rw [placeN_first stmsL (bl s) 0 k (by show k < 9; exact hlt) hno.out (TE.out.2 he),Nat.zero_add])
    have R1 : Hid (kindO (bl s) = (k : Int) + 1) := hid (by unfold kindO; rw [PL.out,if_pos (Int.natCast_nonneg k)]; omega)
    subst he
    have U := hid (five_cc (block_below (set5 X1.out (.int .i64 ((k : Int) + 1)) (.string tk) (.bool gA) (.bool gB) (.bool gC)) (below1 _ (.cells #[.int .i64 ((k : Int) + 1),.string tk,.bool gA,.bool gB,.bool gC] 214))))
    go_wp2
    obtain ⟨u0,u1,u2,u3,u4⟩ := U.out
    rw [R1.out,PL.out,← GA.out,← GB.out,← GC.out,decide_eq_true (Int.natCast_nonneg k)]
    refine bodyPost_ret (v := .tuple #[.agg #[.int .i64 ((k : Int) + 1),.string tk,.bool gA,.bool gB,.bool gC],.bool true]) (by simp [results,Tryz.results117,go_sem,u0,u1,u2,u3,u4]) rfl ⟨⟨tk,rfl⟩,?_⟩
    have hP := hPw.out
    have h5 := ((((BW.out.setCell (p := ⟨P0,0,none⟩) hP (.int .i64 ((k : Int) + 1))).setCell (p := ⟨P0,1,none⟩) hP (.string tk)).setCell (p := ⟨P0,2,none⟩) hP (.bool gA)).setCell (p := ⟨P0,3,none⟩) hP (.bool gB)).setCell (p := ⟨P0,4,none⟩) hP (.bool gC)
    exact h5.alloc h5.size _
   ·have hts' := str_ne he
    have hts2 : ¬ tk.toList = s.toList := by simpa using hts'
    have HE := hid he
    clear he
    go_wp2
    go_roundw
    case rel =>
     refine ⟨k + 1,by omega,by go_num,hid (fun j hj => ?_),HB.out.trans ((below1 wr _).mono HB.out.size)⟩
     by_cases hjk : j < k
     ·exact hno.out j hjk
     ·obtain rfl : j = k := by omega
      exact fun e => HE.out (TE.out.1 e)
    case measure => simp [intOf]; omega
  ·have hlt' : ¬ (k : Int) < 9 := by omega
   have e9 : k = 9 := by omega
   have PN : Hid (¬ 0 ≤ placeN stmsL (bl s) 0) := hid (placeN_none _ _ _ (fun j hj => hno.out j (by rw [e9]; exact hj)))
   have R1 : Hid (kindO (bl s) = 0) := hid (by unfold kindO; rw [if_neg PN.out])
   have R0 : Hid (decide (0 ≤ placeN stmsL (bl s) 0) = false) := hid (decide_eq_false PN.out)
   clear PN
   subst e9
   clear hb
   have U := hid (five_cc (set5 X1.out (.int .i64 0) (.string ⟨#[]⟩) (.bool false) (.bool false) (.bool false)))
   go_wp2
   obtain ⟨u0,u1,u2,u3,u4⟩ := U.out
   rw [R1.out,R0.out]
   refine bodyPost_ret (v := .tuple #[.agg #[.int .i64 0,.string ⟨#[]⟩,.bool false,.bool false,.bool false],.bool false]) (by simp [results,Tryz.results117,go_sem,u0,u1,u2,u3,u4]) rfl ⟨⟨⟨#[]⟩,rfl⟩,?_⟩
   have hP := hPw.out
   exact ((((BW.out.setCell (p := ⟨P0,0,none⟩) hP _).setCell (p := ⟨P0,1,none⟩) hP _).setCell (p := ⟨P0,2,none⟩) hP _).setCell (p := ⟨P0,3,none⟩) hP _).setCell (p := ⟨P0,4,none⟩) hP _
end Go.Proofs.YtkdgkomnbjepdaaGreatDoor

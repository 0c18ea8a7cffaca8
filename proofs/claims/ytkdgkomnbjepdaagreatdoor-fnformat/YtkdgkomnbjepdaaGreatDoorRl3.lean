import Derived.Test.YtkdgkomnbjepdaaGreatDoorEa
namespace Go.Proofs.YtkdgkomnbjepdaaGreatDoor
open Go.RowKit Go.Sort
set_option linter.unusedVariables false
attribute [local go_sem ↓] Go.wp_at_zero Go.wp_at_succ
set_option maxRecDepth 100000 in
set_option maxHeartbeats 1600000 in
theorem line_kSig (kb : ByteArray) (b off n c M : Nat) (B Q : Nat) (G : SyG) (bg : Bool) (X : List Rw) (fs : List (List UInt8)) (w : World) (h : Sl w B (rdB Q G bg :: (G.rows ++ X))) (hn : n + 1 ≤ 1048576) (hc : n + 1 ≤ c) (hfl : ∀ f ∈ fs,f.length ≤ 1048576) (hs : StrsOf w (some ⟨b,off,none⟩) (n + 1) fs) (ht : TagS w (some ⟨b,off,none⟩) (n + 1))
  (hk : fs.getD 0 [] = bl kb) (LK : ∀ W : World,W.heap[M]? = some (.map (rdMap Q) 10) → (Instr.lookup 96 (.map (some M)) (.string kb) true).run Tryz.prog W = .ok (.tuple #[.func (.func 50) #[.pointer (some ⟨Q,0,none⟩)] #[],.bool true]) W) (hM : w.heap[M]? = some (.map (rdMap Q) 10))
  (HR : ∀ (W : World) (F : Nat),St W B F fs.tail false (rdB Q G bg :: (G.rows ++ X)) → Calls Tryz.prog 50 #[.pointer (some ⟨Q,0,none⟩),.pointer (some ⟨F,0,none⟩)] W fun e w' => RdR B F Q G bg X (fs.getD 0 []) fs.tail W e w') :
  Calls Tryz.prog 49 #[.slice (some ⟨b,off,none⟩) (n + 1) c,.map (some M)] w fun e w' => LnI B Q G bg X fs w e w' := by
 obtain ⟨c0,hbl,_⟩ := hs.one
 have c0' : w.cell? ⟨b,off,none⟩ = some (.string kb) := by rw [c0]; unfold tx; rw [ba_bl.2 hk]
 have LK := LK w hM
 obtain ⟨a,c',ha⟩ : ∃ a c',(c = 1 ∧ a = (⟨b,off,none⟩ : Addr) ∧ c' = 0) ∨ (¬ c = 1 ∧ a = ⟨b,off + 1,none⟩ ∧ c' = c - 1) := by
  by_cases h1 : c = 1
  ·exact ⟨_,_,.inl ⟨h1,rfl,rfl⟩⟩
  ·exact ⟨_,_,.inr ⟨h1,rfl,rfl⟩⟩
 have FN := fields_new hn hc hs ht a c' ha
 obtain ⟨W0,hW0⟩ : ∃ W,W = w.alloc (.cells #[.slice (some a) n c',.nilIface] 168) := ⟨_,rfl⟩
 rw [← hW0] at FN
 have BW : Below w.heap.size w W0 := by rw [hW0]; exact below1 _ _
 have h0 := h.below BW
 have S0 : St W0 B w.heap.size fs.tail false (rdB Q G bg :: (G.rows ++ X)) := ⟨h0.vars,h0.flat,FN,h0.nof,h0.lo,h0.hi,h.hi,fun f hf => hfl f (List.mem_of_mem_tail hf)⟩
 have RD := hid (HR W0 w.heap.size S0)
 have BB := hid (Bm.new BW h.hi)
 have H12 := hid (Nat.lt_of_lt_of_le h.lo h.hi)
 have HW0 := hid hW0
 clear h hs ht hM HR c0 hfl hW0 FN S0 h0 BW hk
 rcases ha with ⟨hc1,ha1,hc2⟩ | ⟨hc1,ha1,hc2⟩
 ·subst hc1 hc2
  obtain rfl : n = 0 := by omega
  subst ha1
  go_enter Tryz.func49,Tryz.ntmps49
  go_wp2_with fail
  rw [← HW0.out]
  clear HW0
  with_reducible refine RD.out.mono ?_
  rintro e w1 ⟨rfl,b1,hor⟩
  obtain ⟨rest,bad,M',hS,hor2⟩ : ∃ rest bad M',St w1 B w.heap.size rest bad M' ∧ ((∃ G' : SyG,lineW G.dat (fs.getD 0 []) fs.tail bg = some G'.dat ∧ bad = false ∧ rest = [] ∧ M' = rdB Q G' true :: (G'.rows ++ X)) ∨ (lineW G.dat (fs.getD 0 []) fs.tail bg = none ∧ X.Sublist M' ∧ (bad || !rest.isEmpty) = true)) := by
   rcases hor with ⟨G',h1,h2⟩ | ⟨h1,rest,bad,M',h2,h3,h4⟩
   ·exact ⟨_,_,_,h2,.inl ⟨G',h1,rfl,rfl,rfl⟩⟩
   ·exact ⟨_,_,_,h2,.inr ⟨h1,h3,h4⟩⟩
  have HS := hid hS
  have OR := hid hor2
  have B1 := hid (BB.out.trans b1)
  have EN := hid (end_any w.heap.size rest bad w1 hS.vars.v H12.out hS.fat)
  clear hor hor2 hS b1 RD
  go_wp2_with (go_at_call 83; with_reducible refine EN.out.mono ?_)
  rintro e w2 ⟨⟨ev,rfl,hev⟩,t2⟩
  have EV := hid hev
  have T2 := hid t2
  clear hev t2
  go_wp2
  go_ret
  exact ln_done2 B1.out HS.out T2.out EV.out OR.out
 ·subst hc2
  subst ha1
  have hn1 : (1 : Int) ≤ (n : Int) + 1 := by omega
  go_enter Tryz.func49,Tryz.ntmps49
  go_wp2_with fail
  rw [← HW0.out]
  clear HW0
  with_reducible refine RD.out.mono ?_
  rintro e w1 ⟨rfl,b1,hor⟩
  obtain ⟨rest,bad,M',hS,hor2⟩ : ∃ rest bad M',St w1 B w.heap.size rest bad M' ∧ ((∃ G' : SyG,lineW G.dat (fs.getD 0 []) fs.tail bg = some G'.dat ∧ bad = false ∧ rest = [] ∧ M' = rdB Q G' true :: (G'.rows ++ X)) ∨ (lineW G.dat (fs.getD 0 []) fs.tail bg = none ∧ X.Sublist M' ∧ (bad || !rest.isEmpty) = true)) := by
   rcases hor with ⟨G',h1,h2⟩ | ⟨h1,rest,bad,M',h2,h3,h4⟩
   ·exact ⟨_,_,_,h2,.inl ⟨G',h1,rfl,rfl,rfl⟩⟩
   ·exact ⟨_,_,_,h2,.inr ⟨h1,h3,h4⟩⟩
  have HS := hid hS
  have OR := hid hor2
  have B1 := hid (BB.out.trans b1)
  have EN := hid (end_any w.heap.size rest bad w1 hS.vars.v H12.out hS.fat)
  clear hor hor2 hS b1 RD
  go_wp2_with (go_at_call 83; with_reducible refine EN.out.mono ?_)
  rintro e w2 ⟨⟨ev,rfl,hev⟩,t2⟩
  have EV := hid hev
  have T2 := hid t2
  clear hev t2
  go_wp2
  go_ret
  exact ln_done2 B1.out HS.out T2.out EV.out OR.out
set_option maxRecDepth 100000 in
set_option maxHeartbeats 1600000 in
theorem line_kObj (kb : ByteArray) (b off n c M : Nat) (B Q : Nat) (G : SyG) (bg : Bool) (X : List Rw) (fs : List (List UInt8)) (w : World) (h : Sl w B (rdB Q G bg :: (G.rows ++ X))) (hn : n + 1 ≤ 1048576) (hc : n + 1 ≤ c) (hfl : ∀ f ∈ fs,f.length ≤ 1048576) (hs : StrsOf w (some ⟨b,off,none⟩) (n + 1) fs) (ht : TagS w (some ⟨b,off,none⟩) (n + 1))
  (hk : fs.getD 0 [] = bl kb) (LK : ∀ W : World,W.heap[M]? = some (.map (rdMap Q) 10) → (Instr.lookup 96 (.map (some M)) (.string kb) true).run Tryz.prog W = .ok (.tuple #[.func (.func 51) #[.pointer (some ⟨Q,0,none⟩)] #[],.bool true]) W) (hM : w.heap[M]? = some (.map (rdMap Q) 10))
  (HR : ∀ (W : World) (F : Nat),St W B F fs.tail false (rdB Q G bg :: (G.rows ++ X)) → Calls Tryz.prog 51 #[.pointer (some ⟨Q,0,none⟩),.pointer (some ⟨F,0,none⟩)] W fun e w' => RdR B F Q G bg X (fs.getD 0 []) fs.tail W e w') :
  Calls Tryz.prog 49 #[.slice (some ⟨b,off,none⟩) (n + 1) c,.map (some M)] w fun e w' => LnI B Q G bg X fs w e w' := by
 obtain ⟨c0,hbl,_⟩ := hs.one
 have c0' : w.cell? ⟨b,off,none⟩ = some (.string kb) := by rw [c0]; unfold tx; rw [ba_bl.2 hk]
 have LK := LK w hM
 obtain ⟨a,c',ha⟩ : ∃ a c',(c = 1 ∧ a = (⟨b,off,none⟩ : Addr) ∧ c' = 0) ∨ (¬ c = 1 ∧ a = ⟨b,off + 1,none⟩ ∧ c' = c - 1) := by
  by_cases h1 : c = 1
  ·exact ⟨_,_,.inl ⟨h1,rfl,rfl⟩⟩
  ·exact ⟨_,_,.inr ⟨h1,rfl,rfl⟩⟩
 have FN := fields_new hn hc hs ht a c' ha
 obtain ⟨W0,hW0⟩ : ∃ W,W = w.alloc (.cells #[.slice (some a) n c',.nilIface] 168) := ⟨_,rfl⟩
 rw [← hW0] at FN
 have BW : Below w.heap.size w W0 := by rw [hW0]; exact below1 _ _
 have h0 := h.below BW
 have S0 : St W0 B w.heap.size fs.tail false (rdB Q G bg :: (G.rows ++ X)) := ⟨h0.vars,h0.flat,FN,h0.nof,h0.lo,h0.hi,h.hi,fun f hf => hfl f (List.mem_of_mem_tail hf)⟩
 have RD := hid (HR W0 w.heap.size S0)
 have BB := hid (Bm.new BW h.hi)
 have H12 := hid (Nat.lt_of_lt_of_le h.lo h.hi)
 have HW0 := hid hW0
 clear h hs ht hM HR c0 hfl hW0 FN S0 h0 BW hk
 rcases ha with ⟨hc1,ha1,hc2⟩ | ⟨hc1,ha1,hc2⟩
 ·subst hc1 hc2
  obtain rfl : n = 0 := by omega
  subst ha1
  go_enter Tryz.func49,Tryz.ntmps49
  go_wp2_with fail
  rw [← HW0.out]
  clear HW0
  with_reducible refine RD.out.mono ?_
  rintro e w1 ⟨rfl,b1,hor⟩
  obtain ⟨rest,bad,M',hS,hor2⟩ : ∃ rest bad M',St w1 B w.heap.size rest bad M' ∧ ((∃ G' : SyG,lineW G.dat (fs.getD 0 []) fs.tail bg = some G'.dat ∧ bad = false ∧ rest = [] ∧ M' = rdB Q G' true :: (G'.rows ++ X)) ∨ (lineW G.dat (fs.getD 0 []) fs.tail bg = none ∧ X.Sublist M' ∧ (bad || !rest.isEmpty) = true)) := by
   rcases hor with ⟨G',h1,h2⟩ | ⟨h1,rest,bad,M',h2,h3,h4⟩
   ·exact ⟨_,_,_,h2,.inl ⟨G',h1,rfl,rfl,rfl⟩⟩
   ·exact ⟨_,_,_,h2,.inr ⟨h1,h3,h4⟩⟩
  have HS := hid hS
  have OR := hid hor2
  have B1 := hid (BB.out.trans b1)
  have EN := hid (end_any w.heap.size rest bad w1 hS.vars.v H12.out hS.fat)
  clear hor hor2 hS b1 RD
  go_wp2_with (go_at_call 83; with_reducible refine EN.out.mono ?_)
  rintro e w2 ⟨⟨ev,rfl,hev⟩,t2⟩
  have EV := hid hev
  have T2 := hid t2
  clear hev t2
  go_wp2
  go_ret
  exact ln_done2 B1.out HS.out T2.out EV.out OR.out
 ·subst hc2
  subst ha1
  have hn1 : (1 : Int) ≤ (n : Int) + 1 := by omega
  go_enter Tryz.func49,Tryz.ntmps49
  go_wp2_with fail
  rw [← HW0.out]
  clear HW0
  with_reducible refine RD.out.mono ?_
  rintro e w1 ⟨rfl,b1,hor⟩
  obtain ⟨rest,bad,M',hS,hor2⟩ : ∃ rest bad M',St w1 B w.heap.size rest bad M' ∧ ((∃ G' : SyG,lineW G.dat (fs.getD 0 []) fs.tail bg = some G'.dat ∧ bad = false ∧ rest = [] ∧ M' = rdB Q G' true :: (G'.rows ++ X)) ∨ (lineW G.dat (fs.getD 0 []) fs.tail bg = none ∧ X.Sublist M' ∧ (bad || !rest.isEmpty) = true)) := by
   rcases hor with ⟨G',h1,h2⟩ | ⟨h1,rest,bad,M',h2,h3,h4⟩
   ·exact ⟨_,_,_,h2,.inl ⟨G',h1,rfl,rfl,rfl⟩⟩
   ·exact ⟨_,_,_,h2,.inr ⟨h1,h3,h4⟩⟩
  have HS := hid hS
  have OR := hid hor2
  have B1 := hid (BB.out.trans b1)
  have EN := hid (end_any w.heap.size rest bad w1 hS.vars.v H12.out hS.fat)
  clear hor hor2 hS b1 RD
  go_wp2_with (go_at_call 83; with_reducible refine EN.out.mono ?_)
  rintro e w2 ⟨⟨ev,rfl,hev⟩,t2⟩
  have EV := hid hev
  have T2 := hid t2
  clear hev t2
  go_wp2
  go_ret
  exact ln_done2 B1.out HS.out T2.out EV.out OR.out
set_option maxRecDepth 100000 in
set_option maxHeartbeats 1600000 in
theorem line_kVar (kb : ByteArray) (b off n c M : Nat) (B Q : Nat) (G : SyG) (bg : Bool) (X : List Rw) (fs : List (List UInt8)) (w : World) (h : Sl w B (rdB Q G bg :: (G.rows ++ X))) (hn : n + 1 ≤ 1048576) (hc : n + 1 ≤ c) (hfl : ∀ f ∈ fs,f.length ≤ 1048576) (hs : StrsOf w (some ⟨b,off,none⟩) (n + 1) fs) (ht : TagS w (some ⟨b,off,none⟩) (n + 1))
  (hk : fs.getD 0 [] = bl kb) (LK : ∀ W : World,W.heap[M]? = some (.map (rdMap Q) 10) → (Instr.lookup 96 (.map (some M)) (.string kb) true).run Tryz.prog W = .ok (.tuple #[.func (.func 52) #[.pointer (some ⟨Q,0,none⟩)] #[],.bool true]) W) (hM : w.heap[M]? = some (.map (rdMap Q) 10))
  (HR : ∀ (W : World) (F : Nat),St W B F fs.tail false (rdB Q G bg :: (G.rows ++ X)) → Calls Tryz.prog 52 #[.pointer (some ⟨Q,0,none⟩),.pointer (some ⟨F,0,none⟩)] W fun e w' => RdR B F Q G bg X (fs.getD 0 []) fs.tail W e w') :
  Calls Tryz.prog 49 #[.slice (some ⟨b,off,none⟩) (n + 1) c,.map (some M)] w fun e w' => LnI B Q G bg X fs w e w' := by
 obtain ⟨c0,hbl,_⟩ := hs.one
 have c0' : w.cell? ⟨b,off,none⟩ = some (.string kb) := by rw [c0]; unfold tx; rw [ba_bl.2 hk]
 have LK := LK w hM
 obtain ⟨a,c',ha⟩ : ∃ a c',(c = 1 ∧ a = (⟨b,off,none⟩ : Addr) ∧ c' = 0) ∨ (¬ c = 1 ∧ a = ⟨b,off + 1,none⟩ ∧ c' = c - 1) := by
  by_cases h1 : c = 1
  ·exact ⟨_,_,.inl ⟨h1,rfl,rfl⟩⟩
  ·exact ⟨_,_,.inr ⟨h1,rfl,rfl⟩⟩
 have FN := fields_new hn hc hs ht a c' ha
 obtain ⟨W0,hW0⟩ : ∃ W,W = w.alloc (.cells #[.slice (some a) n c',.nilIface] 168) := ⟨_,rfl⟩
 rw [← hW0] at FN
 have BW : Below w.heap.size w W0 := by rw [hW0]; exact below1 _ _
 have h0 := h.below BW
 have S0 : St W0 B w.heap.size fs.tail false (rdB Q G bg :: (G.rows ++ X)) := ⟨h0.vars,h0.flat,FN,h0.nof,h0.lo,h0.hi,h.hi,fun f hf => hfl f (List.mem_of_mem_tail hf)⟩
 have RD := hid (HR W0 w.heap.size S0)
 have BB := hid (Bm.new BW h.hi)
 have H12 := hid (Nat.lt_of_lt_of_le h.lo h.hi)
 have HW0 := hid hW0
 clear h hs ht hM HR c0 hfl hW0 FN S0 h0 BW hk
 rcases ha with ⟨hc1,ha1,hc2⟩ | ⟨hc1,ha1,hc2⟩
 ·subst hc1 hc2
  obtain rfl : n = 0 := by omega
  subst ha1
  go_enter Tryz.func49,Tryz.ntmps49
  go_wp2_with fail
  rw [← HW0.out]
  clear HW0
  with_reducible refine RD.out.mono ?_
  rintro e w1 ⟨rfl,b1,hor⟩
  obtain ⟨rest,bad,M',hS,hor2⟩ : ∃ rest bad M',St w1 B w.heap.size rest bad M' ∧ ((∃ G' : SyG,lineW G.dat (fs.getD 0 []) fs.tail bg = some G'.dat ∧ bad = false ∧ rest = [] ∧ M' = rdB Q G' true :: (G'.rows ++ X)) ∨ (lineW G.dat (fs.getD 0 []) fs.tail bg = none ∧ X.Sublist M' ∧ (bad || !rest.isEmpty) = true)) := by
   rcases hor with ⟨G',h1,h2⟩ | ⟨h1,rest,bad,M',h2,h3,h4⟩
   ·exact ⟨_,_,_,h2,.inl ⟨G',h1,rfl,rfl,rfl⟩⟩
   ·exact ⟨_,_,_,h2,.inr ⟨h1,h3,h4⟩⟩
  have HS := hid hS
  have OR := hid hor2
  have B1 := hid (BB.out.trans b1)
  have EN := hid (end_any w.heap.size rest bad w1 hS.vars.v H12.out hS.fat)
  clear hor hor2 hS b1 RD
  go_wp2_with (go_at_call 83; with_reducible refine EN.out.mono ?_)
  rintro e w2 ⟨⟨ev,rfl,hev⟩,t2⟩
  have EV := hid hev
  have T2 := hid t2
  clear hev t2
  go_wp2
  go_ret
  exact ln_done2 B1.out HS.out T2.out EV.out OR.out
 ·subst hc2
  subst ha1
  have hn1 : (1 : Int) ≤ (n : Int) + 1 := by omega
  go_enter Tryz.func49,Tryz.ntmps49
  go_wp2_with fail
  rw [← HW0.out]
  clear HW0
  with_reducible refine RD.out.mono ?_
  rintro e w1 ⟨rfl,b1,hor⟩
  obtain ⟨rest,bad,M',hS,hor2⟩ : ∃ rest bad M',St w1 B w.heap.size rest bad M' ∧ ((∃ G' : SyG,lineW G.dat (fs.getD 0 []) fs.tail bg = some G'.dat ∧ bad = false ∧ rest = [] ∧ M' = rdB Q G' true :: (G'.rows ++ X)) ∨ (lineW G.dat (fs.getD 0 []) fs.tail bg = none ∧ X.Sublist M' ∧ (bad || !rest.isEmpty) = true)) := by
   rcases hor with ⟨G',h1,h2⟩ | ⟨h1,rest,bad,M',h2,h3,h4⟩
   ·exact ⟨_,_,_,h2,.inl ⟨G',h1,rfl,rfl,rfl⟩⟩
   ·exact ⟨_,_,_,h2,.inr ⟨h1,h3,h4⟩⟩
  have HS := hid hS
  have OR := hid hor2
  have B1 := hid (BB.out.trans b1)
  have EN := hid (end_any w.heap.size rest bad w1 hS.vars.v H12.out hS.fat)
  clear hor hor2 hS b1 RD
  go_wp2_with (go_at_call 83; with_reducible refine EN.out.mono ?_)
  rintro e w2 ⟨⟨ev,rfl,hev⟩,t2⟩
  have EV := hid hev
  have T2 := hid t2
  clear hev t2
  go_wp2
  go_ret
  exact ln_done2 B1.out HS.out T2.out EV.out OR.out
set_option maxRecDepth 100000 in
set_option maxHeartbeats 1600000 in
theorem line_kSub (kb : ByteArray) (b off n c M : Nat) (B Q : Nat) (G : SyG) (bg : Bool) (X : List Rw) (fs : List (List UInt8)) (w : World) (h : Sl w B (rdB Q G bg :: (G.rows ++ X))) (hn : n + 1 ≤ 1048576) (hc : n + 1 ≤ c) (hfl : ∀ f ∈ fs,f.length ≤ 1048576) (hs : StrsOf w (some ⟨b,off,none⟩) (n + 1) fs) (ht : TagS w (some ⟨b,off,none⟩) (n + 1))
  (hk : fs.getD 0 [] = bl kb) (LK : ∀ W : World,W.heap[M]? = some (.map (rdMap Q) 10) → (Instr.lookup 96 (.map (some M)) (.string kb) true).run Tryz.prog W = .ok (.tuple #[.func (.func 53) #[.pointer (some ⟨Q,0,none⟩)] #[],.bool true]) W) (hM : w.heap[M]? = some (.map (rdMap Q) 10))
  (HR : ∀ (W : World) (F : Nat),St W B F fs.tail false (rdB Q G bg :: (G.rows ++ X)) → Calls Tryz.prog 53 #[.pointer (some ⟨Q,0,none⟩),.pointer (some ⟨F,0,none⟩)] W fun e w' => RdR B F Q G bg X (fs.getD 0 []) fs.tail W e w') :
  Calls Tryz.prog 49 #[.slice (some ⟨b,off,none⟩) (n + 1) c,.map (some M)] w fun e w' => LnI B Q G bg X fs w e w' := by
 obtain ⟨c0,hbl,_⟩ := hs.one
 have c0' : w.cell? ⟨b,off,none⟩ = some (.string kb) := by rw [c0]; unfold tx; rw [ba_bl.2 hk]
 have LK := LK w hM
 obtain ⟨a,c',ha⟩ : ∃ a c',(c = 1 ∧ a = (⟨b,off,none⟩ : Addr) ∧ c' = 0) ∨ (¬ c = 1 ∧ a = ⟨b,off + 1,none⟩ ∧ c' = c - 1) := by
  by_cases h1 : c = 1
  ·exact ⟨_,_,.inl ⟨h1,rfl,rfl⟩⟩
  ·exact ⟨_,_,.inr ⟨h1,rfl,rfl⟩⟩
 have FN := fields_new hn hc hs ht a c' ha
 obtain ⟨W0,hW0⟩ : ∃ W,W = w.alloc (.cells #[.slice (some a) n c',.nilIface] 168) := ⟨_,rfl⟩
 rw [← hW0] at FN
 have BW : Below w.heap.size w W0 := by rw [hW0]; exact below1 _ _
 have h0 := h.below BW
 have S0 : St W0 B w.heap.size fs.tail false (rdB Q G bg :: (G.rows ++ X)) := ⟨h0.vars,h0.flat,FN,h0.nof,h0.lo,h0.hi,h.hi,fun f hf => hfl f (List.mem_of_mem_tail hf)⟩
 have RD := hid (HR W0 w.heap.size S0)
 have BB := hid (Bm.new BW h.hi)
 have H12 := hid (Nat.lt_of_lt_of_le h.lo h.hi)
 have HW0 := hid hW0
 clear h hs ht hM HR c0 hfl hW0 FN S0 h0 BW hk
 rcases ha with ⟨hc1,ha1,hc2⟩ | ⟨hc1,ha1,hc2⟩
 ·subst hc1 hc2
  obtain rfl : n = 0 := by omega
  subst ha1
  go_enter Tryz.func49,Tryz.ntmps49
  go_wp2_with fail
  rw [← HW0.out]
  clear HW0
  with_reducible refine RD.out.mono ?_
  rintro e w1 ⟨rfl,b1,hor⟩
  obtain ⟨rest,bad,M',hS,hor2⟩ : ∃ rest bad M',St w1 B w.heap.size rest bad M' ∧ ((∃ G' : SyG,lineW G.dat (fs.getD 0 []) fs.tail bg = some G'.dat ∧ bad = false ∧ rest = [] ∧ M' = rdB Q G' true :: (G'.rows ++ X)) ∨ (lineW G.dat (fs.getD 0 []) fs.tail bg = none ∧ X.Sublist M' ∧ (bad || !rest.isEmpty) = true)) := by
   rcases hor with ⟨G',h1,h2⟩ | ⟨h1,rest,bad,M',h2,h3,h4⟩
   ·exact ⟨_,_,_,h2,.inl ⟨G',h1,rfl,rfl,rfl⟩⟩
   ·exact ⟨_,_,_,h2,.inr ⟨h1,h3,h4⟩⟩
  have HS := hid hS
  have OR := hid hor2
  have B1 := hid (BB.out.trans b1)
  have EN := hid (end_any w.heap.size rest bad w1 hS.vars.v H12.out hS.fat)
  clear hor hor2 hS b1 RD
  go_wp2_with (go_at_call 83; with_reducible refine EN.out.mono ?_)
  rintro e w2 ⟨⟨ev,rfl,hev⟩,t2⟩
  have EV := hid hev
  have T2 := hid t2
  clear hev t2
  go_wp2
  go_ret
  exact ln_done2 B1.out HS.out T2.out EV.out OR.out
 ·subst hc2
  subst ha1
  have hn1 : (1 : Int) ≤ (n : Int) + 1 := by omega
  go_enter Tryz.func49,Tryz.ntmps49
  go_wp2_with fail
  rw [← HW0.out]
  clear HW0
  with_reducible refine RD.out.mono ?_
  rintro e w1 ⟨rfl,b1,hor⟩
  obtain ⟨rest,bad,M',hS,hor2⟩ : ∃ rest bad M',St w1 B w.heap.size rest bad M' ∧ ((∃ G' : SyG,lineW G.dat (fs.getD 0 []) fs.tail bg = some G'.dat ∧ bad = false ∧ rest = [] ∧ M' = rdB Q G' true :: (G'.rows ++ X)) ∨ (lineW G.dat (fs.getD 0 []) fs.tail bg = none ∧ X.Sublist M' ∧ (bad || !rest.isEmpty) = true)) := by
   rcases hor with ⟨G',h1,h2⟩ | ⟨h1,rest,bad,M',h2,h3,h4⟩
   ·exact ⟨_,_,_,h2,.inl ⟨G',h1,rfl,rfl,rfl⟩⟩
   ·exact ⟨_,_,_,h2,.inr ⟨h1,h3,h4⟩⟩
  have HS := hid hS
  have OR := hid hor2
  have B1 := hid (BB.out.trans b1)
  have EN := hid (end_any w.heap.size rest bad w1 hS.vars.v H12.out hS.fat)
  clear hor hor2 hS b1 RD
  go_wp2_with (go_at_call 83; with_reducible refine EN.out.mono ?_)
  rintro e w2 ⟨⟨ev,rfl,hev⟩,t2⟩
  have EV := hid hev
  have T2 := hid t2
  clear hev t2
  go_wp2
  go_ret
  exact ln_done2 B1.out HS.out T2.out EV.out OR.out
set_option maxRecDepth 100000 in
set_option maxHeartbeats 1600000 in
theorem line_kSta (kb : ByteArray) (b off n c M : Nat) (B Q : Nat) (G : SyG) (bg : Bool) (X : List Rw) (fs : List (List UInt8)) (w : World) (h : Sl w B (rdB Q G bg :: (G.rows ++ X))) (hn : n + 1 ≤ 1048576) (hc : n + 1 ≤ c) (hfl : ∀ f ∈ fs,f.length ≤ 1048576) (hs : StrsOf w (some ⟨b,off,none⟩) (n + 1) fs) (ht : TagS w (some ⟨b,off,none⟩) (n + 1))
  (hk : fs.getD 0 [] = bl kb) (LK : ∀ W : World,W.heap[M]? = some (.map (rdMap Q) 10) → (Instr.lookup 96 (.map (some M)) (.string kb) true).run Tryz.prog W = .ok (.tuple #[.func (.func 54) #[.pointer (some ⟨Q,0,none⟩)] #[],.bool true]) W) (hM : w.heap[M]? = some (.map (rdMap Q) 10))
  (HR : ∀ (W : World) (F : Nat),St W B F fs.tail false (rdB Q G bg :: (G.rows ++ X)) → Calls Tryz.prog 54 #[.pointer (some ⟨Q,0,none⟩),.pointer (some ⟨F,0,none⟩)] W fun e w' => RdR B F Q G bg X (fs.getD 0 []) fs.tail W e w') :
  Calls Tryz.prog 49 #[.slice (some ⟨b,off,none⟩) (n + 1) c,.map (some M)] w fun e w' => LnI B Q G bg X fs w e w' := by
 obtain ⟨c0,hbl,_⟩ := hs.one
 have c0' : w.cell? ⟨b,off,none⟩ = some (.string kb) := by rw [c0]; unfold tx; rw [ba_bl.2 hk]
 have LK := LK w hM
 obtain ⟨a,c',ha⟩ : ∃ a c',(c = 1 ∧ a = (⟨b,off,none⟩ : Addr) ∧ c' = 0) ∨ (¬ c = 1 ∧ a = ⟨b,off + 1,none⟩ ∧ c' = c - 1) := by
  by_cases h1 : c = 1
  ·exact ⟨_,_,.inl ⟨h1,rfl,rfl⟩⟩
  ·exact ⟨_,_,.inr ⟨h1,rfl,rfl⟩⟩
 have FN := fields_new hn hc hs ht a c' ha
 obtain ⟨W0,hW0⟩ : ∃ W,W = w.alloc (.cells #[.slice (some a) n c',.nilIface] 168) := ⟨_,rfl⟩
 rw [← hW0] at FN
 have BW : Below w.heap.size w W0 := by rw [hW0]; exact below1 _ _
 have h0 := h.below BW
 have S0 : St W0 B w.heap.size fs.tail false (rdB Q G bg :: (G.rows ++ X)) := ⟨h0.vars,h0.flat,FN,h0.nof,h0.lo,h0.hi,h.hi,fun f hf => hfl f (List.mem_of_mem_tail hf)⟩
 have RD := hid (HR W0 w.heap.size S0)
 have BB := hid (Bm.new BW h.hi)
 have H12 := hid (Nat.lt_of_lt_of_le h.lo h.hi)
 have HW0 := hid hW0
 clear h hs ht hM HR c0 hfl hW0 FN S0 h0 BW hk
 rcases ha with ⟨hc1,ha1,hc2⟩ | ⟨hc1,ha1,hc2⟩
 ·subst hc1 hc2
  obtain rfl : n = 0 := by omega
  subst ha1
  go_enter Tryz.func49,Tryz.ntmps49
  go_wp2_with fail
  rw [← HW0.out]
  clear HW0
  with_reducible refine RD.out.mono ?_
  rintro e w1 ⟨rfl,b1,hor⟩
  obtain ⟨rest,bad,M',hS,hor2⟩ : ∃ rest bad M',St w1 B w.heap.size rest bad M' ∧ ((∃ G' : SyG,lineW G.dat (fs.getD 0 []) fs.tail bg = some G'.dat ∧ bad = false ∧ rest = [] ∧ M' = rdB Q G' true :: (G'.rows ++ X)) ∨ (lineW G.dat (fs.getD 0 []) fs.tail bg = none ∧ X.Sublist M' ∧ (bad || !rest.isEmpty) = true)) := by
   rcases hor with ⟨G',h1,h2⟩ | ⟨h1,rest,bad,M',h2,h3,h4⟩
   ·exact ⟨_,_,_,h2,.inl ⟨G',h1,rfl,rfl,rfl⟩⟩
   ·exact ⟨_,_,_,h2,.inr ⟨h1,h3,h4⟩⟩
  have HS := hid hS
  have OR := hid hor2
  have B1 := hid (BB.out.trans b1)
  have EN := hid (end_any w.heap.size rest bad w1 hS.vars.v H12.out hS.fat)
  clear hor hor2 hS b1 RD
  go_wp2_with (go_at_call 83; with_reducible refine EN.out.mono ?_)
  rintro e w2 ⟨⟨ev,rfl,hev⟩,t2⟩
  have EV := hid hev
  have T2 := hid t2
  clear hev t2
  go_wp2
  go_ret
  exact ln_done2 B1.out HS.out T2.out EV.out OR.out
 ·subst hc2
  subst ha1
  have hn1 : (1 : Int) ≤ (n : Int) + 1 := by omega
  go_enter Tryz.func49,Tryz.ntmps49
  go_wp2_with fail
  rw [← HW0.out]
  clear HW0
  with_reducible refine RD.out.mono ?_
  rintro e w1 ⟨rfl,b1,hor⟩
  obtain ⟨rest,bad,M',hS,hor2⟩ : ∃ rest bad M',St w1 B w.heap.size rest bad M' ∧ ((∃ G' : SyG,lineW G.dat (fs.getD 0 []) fs.tail bg = some G'.dat ∧ bad = false ∧ rest = [] ∧ M' = rdB Q G' true :: (G'.rows ++ X)) ∨ (lineW G.dat (fs.getD 0 []) fs.tail bg = none ∧ X.Sublist M' ∧ (bad || !rest.isEmpty) = true)) := by
   rcases hor with ⟨G',h1,h2⟩ | ⟨h1,rest,bad,M',h2,h3,h4⟩
   ·exact ⟨_,_,_,h2,.inl ⟨G',h1,rfl,rfl,rfl⟩⟩
   ·exact ⟨_,_,_,h2,.inr ⟨h1,h3,h4⟩⟩
  have HS := hid hS
  have OR := hid hor2
  have B1 := hid (BB.out.trans b1)
  have EN := hid (end_any w.heap.size rest bad w1 hS.vars.v H12.out hS.fat)
  clear hor hor2 hS b1 RD
  go_wp2_with (go_at_call 83; with_reducible refine EN.out.mono ?_)
  rintro e w2 ⟨⟨ev,rfl,hev⟩,t2⟩
  have EV := hid hev
  have T2 := hid t2
  clear hev t2
  go_wp2
  go_ret
  exact ln_done2 B1.out HS.out T2.out EV.out OR.out
end Go.Proofs.YtkdgkomnbjepdaaGreatDoor

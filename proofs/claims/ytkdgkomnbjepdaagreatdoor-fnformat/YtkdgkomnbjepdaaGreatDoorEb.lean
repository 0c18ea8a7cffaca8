import Derived.Test.YtkdgkomnbjepdaaGreatDoorRc
import Derived.WalkMore
namespace Go.Proofs.YtkdgkomnbjepdaaGreatDoor
open Go.RowKit Go.Sort
set_option linter.unusedVariables false
attribute [local go_sem ↓] Go.wp_at_zero Go.wp_at_succ
def skipF (fs : List (List UInt8)) : Bool := decide (fs.length = 1 ∧ fs.getD 0 [] = []) || (fs.getD 0 []).head? == some 35
theorem pre_is (l : List UInt8) : Lib.hasPrefix l [35] = (l.head? == some 35) := by
 cases l with
 | nil => rfl
 | cons x r => simp [Lib.hasPrefix,List.isPrefixOf]; exact Bool.beq_comm
set_option maxRecDepth 100000 in
set_option maxHeartbeats 800000 in
theorem isSkipped_any (b off n c : Nat) (fs : List (List UInt8)) (w : World) (hn : n + 1 ≤ 1048576) (h : StrsOf w (some ⟨b,off,none⟩) (n + 1) fs) :
  Calls Tryz.prog 82 #[.slice (some ⟨b,off,none⟩) (n + 1) c] w fun e w' => e = .returned (.bool (skipF fs)) ∧ w' = w := by
 obtain ⟨c0,hbl,_⟩ := h.one
 have hfl := h.1
 obtain ⟨s,hs⟩ : ∃ s : ByteArray,s = ⟨(fs.getD 0 []).toArray⟩ := ⟨_,rfl⟩
 have c0' : w.cell? ⟨b,off,none⟩ = some (.string s) := by rw [hs]; exact c0
 have hb : fs.getD 0 [] = bl s := ba_bl.1 hs.symm
 have C0 := Tryz.strings_HasPrefix s ⟨#[35]⟩ w
 obtain ⟨p,hp⟩ : ∃ p,p = ((fs.getD 0 []).head? == some 35) := ⟨_,rfl⟩
 have C : Hid (Calls Tryz.prog 112 #[.string s,.string ⟨#[35]⟩] w fun e w' => e = .returned (.bool p) ∧ w' = w) := hid (by
  have e : Lib.hasPrefix (bl s) [35] = p := by rw [pre_is,hp,hb]
  rw [← e]; exact C0)
 have SF : Hid (skipF fs = (decide (n = 0 ∧ s.size = 0) || p)) := hid (by
  unfold skipF
  rw [hp]
  congr 1
  apply decide_eq_decide.2
  constructor
  ·rintro ⟨h1,h2⟩
   refine ⟨by omega,?_⟩
   rw [← bl_len,← hb,h2]; rfl
  ·rintro ⟨h1,h2⟩
   refine ⟨by omega,?_⟩
   rw [hb]
   exact List.length_eq_zero_iff.1 (by rw [bl_len]; exact h2))
 rw [SF.out]
 clear h c0 hs hb C0 hp hfl SF
 by_cases h0 : n = 0
 ·subst h0
  by_cases hz : s.size = 0
  ·have hte : s = ⟨#[]⟩ := by apply ByteArray.ext; exact Array.eq_empty_of_size_eq_zero hz
   subst hte
   clear hz
   go_enter Tryz.func82,Tryz.ntmps82
   go_wp2
   go_ret
   exact ⟨ret_bool (by simp),rfl⟩
  ·have hte0 : ¬ s.toList = [] := by rw [ByteArray.toList_eq]; intro e; exact hz (by rw [← bl_len]; show (s.data.toList).length = 0; rw [e]; rfl)
   have hte' : s.toList.isEmpty = false := by cases hq : s.toList with | nil => exact absurd hq hte0 | cons a r => rfl
   have HZ := hid hz
   clear hz
   go_enter Tryz.func82,Tryz.ntmps82
   go_wp2_with (go_at_call 112; with_reducible refine C.out.mono ?_; rintro e w1 ⟨rfl,hw1⟩; obtain rfl := hw1.symm)
   go_ret
   exact ⟨ret_bool (by simp [HZ.out]),rfl⟩
 ·have h0' : ((n : Int) + 1 == 1) = false := by simp; omega
  have H0 := hid h0
  clear h0
  go_enter Tryz.func82,Tryz.ntmps82
  go_wp2_with (go_at_call 112; with_reducible refine C.out.mono ?_; rintro e w1 ⟨rfl,hw1⟩; obtain rfl := hw1.symm)
  go_ret
  exact ⟨ret_bool (by simp [H0.out]),rfl⟩
end Go.Proofs.YtkdgkomnbjepdaaGreatDoor
namespace Go.Proofs.YtkdgkomnbjepdaaGreatDoor
open Go.RowKit Go.Sort
set_option linter.unusedVariables false
attribute [local go_sem ↓] Go.wp_at_zero Go.wp_at_succ
theorem three_cs {w : World} {H : Nat} {a b c : Value} {t : TypeId} (k : w.heap[H]? = some (.cells #[a,b,c] t (0,0))) : w.cell? ⟨H,0,none⟩ = some a ∧ w.cell? ⟨H,1,none⟩ = some b ∧ w.cell? ⟨H,2,none⟩ = some c ∧ w.frozen? ⟨H,0,none⟩ = false ∧ w.frozen? ⟨H,1,none⟩ = false ∧ w.frozen? ⟨H,2,none⟩ = false := by
 simp [World.cell?,World.frozen?,k]
def SAt (w : World) (S : Nat) (s : ByteArray) (k ln : Nat) : Prop := w.heap[S]? = some (.cells #[.string s,.int .i64 k,.int .i64 ln] 125 (0,0))
theorem SAt.at {w : World} {S : Nat} {s : ByteArray} {k ln : Nat} (h : SAt w S s k ln) (k' : Nat) : SAt (w.setCell ⟨S,1,none⟩ (.int .i64 k')) S s k' ln := by
 unfold SAt at *
 rw [heap_setCell_same w S 1 _ _ _ h]; simp
theorem SAt.line {w : World} {S : Nat} {s : ByteArray} {k ln : Nat} (h : SAt w S s k ln) (l' : Nat) : SAt (w.setCell ⟨S,2,none⟩ (.int .i64 l')) S s k l' := by
 unfold SAt at *
 rw [heap_setCell_same w S 2 _ _ _ h]; simp
theorem row_far {w : World} {B : Nat} {v : Value} {fs : List (List UInt8)} {S o : Nat} {cs : Array Value} {t : TypeId} {fr : Nat × Nat} (h : TxRow w B v fs) (hS : w.heap[S]? = some (.cells cs t fr)) (ht : t ≠ 9) (x : Value) : TxRow (w.setCell ⟨S,o,none⟩ x) B v fs :=
 row_same h (fun b _ e => Below.heap_setCell _ _ _ _ (fun e2 => own_far2 h ht hS (by rw [e,e2])))
theorem line_of {LS r : List (List UInt8)} {j : Nat} {a : List UInt8} {X : List (List UInt8)} (h : LS.drop j = X) (h2 : X = a :: r) : j < LS.length ∧ LS.getD j [] = a ∧ LS.drop (j + 1) = r := by
 rw [h2] at h
 have hl : j < LS.length := by
  rcases Nat.lt_or_ge j LS.length with h3 | h3
  ·exact h3
  ·rw [List.drop_of_length_le h3] at h; cases h
 rw [drop_getD_cons hl] at h
 injection h with h3 h4
 exact ⟨hl,h3,h4⟩
theorem next_skip {LS : List (List UInt8)} {j : Nat} {a : List UInt8} (h : ∀ i,i < j → skipB (LS.getD i []) = true) (hj : LS.getD j [] = a) (ha : skipB a = true) : ∀ i,i < j + 1 → skipB (LS.getD i []) = true := by
 intro i hi
 by_cases e : i = j
 ·subst e; rw [hj]; exact ha
 ·exact h i (by omega)
theorem tn_grown {S : Nat → Prop} {w wi w2 : World} {e : TypeId} {size n : Nat} {v : Value} {xs : List Value} {o : Obj} (h : Tn S w wi) (hr : wi.ownsRow w.heap.size e size v n xs) (hg : (wi.alloc o).grownBy w2 v.ownBlock) : Tn S w w2 := by
 have ha := below1 wi o
 refine ⟨hg.os.trans (ha.os.trans h.os),hg.tape.trans (ha.tape.trans h.tape),hg.output.trans (ha.output.trans h.output),Nat.le_trans h.size (Nat.le_trans ha.size hg.size),fun b hb hs => ?_⟩
 have hb2 : b < wi.heap.size := Nat.lt_of_lt_of_le hb h.size
 rw [hg.block b (Nat.lt_of_lt_of_le hb2 ha.size) (fun e => by have := (hr.lt b e.symm).1; omega),ha.block b hb2,h.block b hb hs]
theorem sat_grown {wi w2 : World} {B S : Nat} {s : ByteArray} {k ln : Nat} {v : Value} {fs : List (List UInt8)} {o : Obj} (h : SAt wi S s k ln) (hr : TxRow wi B v fs) (hg : (wi.alloc o).grownBy w2 v.ownBlock) : SAt w2 S s k ln := by
 have ha := below1 wi o
 have hl := lt_of_block h
 exact (hg.block S (Nat.lt_of_lt_of_le hl ha.size) (fun e => own_far2 hr (by decide) h e.symm)).trans ((ha.block S hl).trans h)
def NextTo (S : Nat) (s : ByteArray) (k ln B : Nat) (e : Ending) (w' : World) : Prop :=
 (∃ j v k',e = .returned (.tuple #[v,.bool true]) ∧ (∀ i,i < j → skipB ((linesFrom (bl s) k).getD i []) = true) ∧ j < (linesFrom (bl s) k).length ∧ skipB ((linesFrom (bl s) k).getD j []) = false ∧ TxRow w' B v (cut 32 ((linesFrom (bl s) k).getD j [])) ∧ SAt w' S s k' (ln + j + 1) ∧ k' ≤ s.size + 1 ∧ linesFrom (bl s) k' = (linesFrom (bl s) k).drop (j + 1)) ∨
 (e = .returned (.tuple #[.slice none 0 0,.bool false]) ∧ (∀ i,i < (linesFrom (bl s) k).length → skipB ((linesFrom (bl s) k).getD i []) = true))
set_option maxRecDepth 100000 in
set_option maxHeartbeats 4000000 in
theorem next_line (S : Nat) (s : ByteArray) (k ln : Nat) (w : World) (hs : s.size ≤ 1000000) (hk : k ≤ s.size + 1) (hln : ln ≤ 1048577) (h : SAt w S s k ln) :
  Calls Tryz.prog 48 #[.pointer (some ⟨S,0,none⟩)] w fun e w' => NextTo S s k ln w.heap.size e w' ∧ Tn (· = S) w w' := by
 obtain ⟨i0,hi,hz0,hz1,hz2⟩ := info_parts Tryz.infoStr
 have hSl := lt_of_block h
 have HL := hid (bl_len s)
 have H0 := hid h
 obtain ⟨LS,hLS⟩ : ∃ l,l = linesFrom (bl s) k := ⟨_,rfl⟩
 unfold NextTo
 rw [← hLS]
 have HLS := hid hLS
 have LSL : LS.length ≤ 1048577 := by
  rw [hLS]; unfold linesFrom
  split
  ·have := cut_len 10 ((bl s).drop k); simp at this; omega
  ·simp
 clear h hLS
 go_enter Tryz.func48,Tryz.ntmps48
 go_wp2
 go_step3
 go_wp2
 go_step3
 go_wp2
 go_loopg [5] (LS.length + 1) (fun m u wr => ∃ (j p : Nat),m = LS.length + 1 - j ∧ j ≤ LS.length ∧ p ≤ s.size + 1 ∧ Hid (LS.drop j = linesFrom (bl s) p) ∧ Hid (∀ i,i < j → skipB (LS.getD i []) = true) ∧ Hid (SAt wr S s p (ln + j)) ∧ Hid (Tn (· = S) w wr))
 case atStart => exact ⟨0,k,rfl,Nat.zero_le _,hk,hid (by rw [← HLS.out]; simp),hid (fun i h => absurd h (by omega)),H0,hid (Tn.refl _ _)⟩
 case round =>
  obtain ⟨j,p,rfl,hj,hp,hD,hSk,hA,hT⟩ := hrel
  obtain ⟨c0,c1,c2,f0,f1,f2⟩ := three_cs hA.out
  have hSl2 := lt_of_block hA.out
  by_cases hple : p ≤ s.size
  ·have hp' : (p : Int) ≤ (s.size : Int) := by omega
   obtain ⟨a,la⟩ := line_at (bl s) p (by rw [HL.out]; exact hple)
   have LA := hid la
   have hal : p + a.length ≤ s.size := by rw [← HL.out]; exact la.le
   have DJ := hid la.all
   clear la
   have hlj : (((ln + j : Nat) : Int) + 1) = ((ln + j + 1 : Nat) : Int) := by push_cast; omega
   have hb64 : ((ln + j : Nat) : Int) ≤ 3000000 := by omega
   obtain ⟨lnj,hlnj⟩ : ∃ z : Int,z = ((ln + j : Nat) : Int) := ⟨_,rfl⟩
   have HLJ : Hid (lnj + 1 = ((ln + j + 1 : Nat) : Int)) := hid (by rw [hlnj]; exact hlj)
   rw [← hlnj] at c2 hb64
   have hb0 : 0 ≤ lnj := by rw [hlnj]; omega
   clear hlj hlnj
   go_wp2
   go_quiet (fail)
   go_wp2
   obtain ⟨W1,hW1⟩ : ∃ W,W = (wr.drewN nq).setCell ⟨S,2,none⟩ (.int .i64 (lnj + 1)) := ⟨_,rfl⟩
   have A1 := hid (show SAt W1 S s p (ln + j + 1) by rw [hW1,HLJ.out]; exact SAt.line (show SAt (wr.drewN nq) S s p (ln + j) from hA.out) (ln + j + 1))
   have T1 := hid (show Tn (· = S) w W1 by rw [hW1]; exact (hT.out.trans (Tn.of_below (belowDraws (Below.refl _ _) nq))).trans (Tn.one _))
   rw [← hW1]
   have LSJ := hid (line_of hD.out DJ.out)
   clear hW1 c0 c1 c2 f0 f1 f2
   go_loopg [4,5,6] (a.length + 1) (fun m l g i wi => ∃ (b q I G : Nat) (fs : List (List UInt8)),m = a.length + 1 - q ∧ q ≤ a.length ∧ b ≤ q ∧ i = .int .i64 I ∧ g = .int .i64 G ∧ Hid (I = p + q ∧ G = p + b) ∧ Hid (PartsAt 32 a fs b q) ∧ Hid (TxRow wi w.heap.size l fs) ∧ Hid (SAt wi S s p (ln + j + 1)) ∧ Hid (Tn (· = S) w wi))
   case atStart => exact ⟨0,0,p,p,[],rfl,Nat.zero_le _,Nat.le_refl _,rfl,rfl,hid ⟨rfl,rfl⟩,hid (PartsAt.start _ _),hid (World.ownsRow_nil _ _ _ _),A1,T1⟩
   case round =>
    obtain ⟨b,q,I,G,fs,rfl,hq,hbq,rfl,rfl,HIG,hP,hR,hA2,hT2⟩ := hrel
    obtain ⟨c0,c1,c2,f0,f1,f2⟩ := three_cs hA2.out
    have hSl3 := lt_of_block hA2.out
    obtain ⟨la,lm,lc,rfl⟩ := row_form hR.out
    have hIs : I ≤ s.size := by have := HIG.out.1; omega
    have hfl : Hid (fs.length ≤ 1048576) := hid (by have := hP.out.len; omega)
    have E0 := ext_is s G I hIs
    have EC : Hid (((bl s).drop G).take (I - G) = (a.drop b).take (q - b)) := hid (by rw [HIG.out.1,HIG.out.2]; exact LA.out.cut hbq hq)
    rw [EC.out] at E0
    obtain ⟨x,hx⟩ : ∃ x,x = (a.drop b).take (q - b) := ⟨_,rfl⟩
    have PP := hid (fun h1 h2 => hP.out.part h1 h2)
    have PL := hid (fun h1 => hP.out.last h1)
    have PN := hid (fun h1 h2 => hP.out.next h1 h2)
    rw [← hx] at E0 PP PL
    clear hx
    have hGI : (G : Int) ≤ (I : Int) := by have := HIG.out; omega
    by_cases hqa : q < a.length
    ·have hlt : I < s.size := by have := HIG.out.1; omega
     have hlt' : (I : Int) < (s.size : Int) := by omega
     have ch : Hid (s[I] = a.getD q 0) := hid (by
      have h1 := LA.out.at_ q hqa
      rw [← HIG.out.1,bl_get s I hlt] at h1
      exact h1)
     have n10 : ¬ s[I] = 10 := by rw [ch.out]; intro e; exact LA.out.non (by rw [← e]; simp [List.getD_eq_getElem?_getD,hqa])
     have n10' : ((s[I].toNat : Int) == 10) = false := by simp; intro h; exact n10 (UInt8.toNat_inj.1 (by have : (10 : UInt8).toNat = 10 := rfl; omega))
     have nsz : ((I : Int) == (s.size : Int)) = false := by simp; omega
     by_cases h32 : s[I] = 32
     ·have h32' : ((s[I].toNat : Int) != 32) = false := by rw [h32]; rfl
      have Q := hid (PP.out hqa (by rw [← ch.out]; exact h32))
      clear h32 n10 PP PL PN
      go_wp2_with (at_builtin; refine wpList_append_own _ rfl (.tmp 59) (.tmp 67) 126 rfl w.heap.size 9 i0 (.string ⟨#[]⟩) 1 16 Tryz.underlying126 hi hz0 hz1 hz2 rfl (by decide) _ fs.length (fs.map tx) rfl (ownsRow_below hR.out (below1 _ _)) ⟨wr.heap.size,0,none⟩ 1 1 [tx x] rfl rfl (news_oneS wr _ _ rfl) (one_tx x) (by have := hfl.out; unfold maxLen; omega) (by have := hfl.out; omega) (by have := hT2.out.size; simp; omega) ?_)
      intro v' w2 hown' hgrow hnil
      obtain ⟨ao2,n2,cap2,rfl⟩ := row_form hown'
      have R2 : Hid (TxRow w2 w.heap.size (.slice ao2 n2 cap2) (fs ++ [x])) := hid (by unfold TxRow; simpa using hown')
      have T2 := hid (tn_grown hT2.out hR.out hgrow)
      have A2 := hid (sat_grown hA2.out hR.out hgrow)
      clear hown' hgrow hnil
      obtain ⟨d0,d1,d2,g0,g1,g2⟩ := three_cs A2.out
      have dl := lt_of_block A2.out
      go_wp2
      go_roundg (a.length + 1 - (q + 1))
      case measure => omega
      case rel => exact ⟨q + 1,q + 1,I + 1,I + 1,fs ++ [x],rfl,hqa,Nat.le_refl _,by go_num,by go_num,hid (by have := HIG.out; omega),Q,R2,A2,T2⟩
     ·have h32' : ((s[I].toNat : Int) != 32) = true := by simp; intro h; exact h32 (UInt8.toNat_inj.1 (by have : (32 : UInt8).toNat = 32 := rfl; omega))
      have Q := hid (PN.out hqa (by rw [← ch.out]; exact h32))
      clear h32 n10 PP PL PN
      go_wp2
      go_roundg (a.length + 1 - (q + 1))
      case measure => omega
      case rel => exact ⟨b,q + 1,I + 1,G,fs,rfl,hqa,by omega,by go_num,rfl,hid (by have := HIG.out; omega),Q,hR,hA2,hT2⟩
    ·have hqe : q = a.length := by omega
     have IE : Hid (I + 1 = p + a.length + 1) := hid (by have := HIG.out.1; omega)
     have Q := hid (PL.out hqe)
     have I64 : (I : Int) + 1 ≤ 3000000 := by omega
     have SKI := hid (skip_is a)
     have LJ1 := hid (show j + 1 ≤ LS.length from LSJ.out.1)
     have DR : Hid (LS.drop (j + 1) = linesFrom (bl s) (I + 1)) := hid (by rw [IE.out]; exact LSJ.out.2.2)
     have hI2 : Hid (I + 1 ≤ s.size + 1) := hid (by omega)
     have FIN : Hid (I = s.size ∨ ∃ h : I < s.size,s[I] = 10) := hid (by
      rcases LA.out.fin with h | ⟨h1,h2⟩
      ·left; rw [HL.out] at h; have := IE.out; omega
      ·right
       rw [HL.out] at h1
       have hlt : I < s.size := by have := IE.out; omega
       refine ⟨hlt,?_⟩
       rw [← bl_get s I hlt]
       rw [← h2]
       congr 1
       have := IE.out
       omega)
     clear PP PN PL hqe hqa
     rcases FIN.out with hfin | ⟨hlt,hch⟩
     ·subst hfin
      clear FIN
      go_wp2_with (at_builtin; refine wpList_append_own _ rfl (.tmp 59) (.tmp 67) 126 rfl w.heap.size 9 i0 (.string ⟨#[]⟩) 1 16 Tryz.underlying126 hi hz0 hz1 hz2 rfl (by decide) _ fs.length (fs.map tx) rfl (ownsRow_below hR.out (below1 _ _)) ⟨wr.heap.size,0,none⟩ 1 1 [tx x] rfl rfl (news_oneS wr _ _ rfl) (one_tx x) (by have := hfl.out; unfold maxLen; omega) (by have := hfl.out; omega) (by have := hT2.out.size; simp; omega) ?_)
      intro v' w2 hown' hgrow hnil
      obtain ⟨ao2,n2,cap2,rfl⟩ := row_form hown'
      have R2 : Hid (TxRow w2 w.heap.size (.slice ao2 n2 cap2) (fs ++ [x])) := hid (by unfold TxRow; simpa using hown')
      have T2 := hid (tn_grown hT2.out hR.out hgrow)
      have A2 := hid (sat_grown hA2.out hR.out hgrow)
      clear hown' hgrow hnil
      obtain ⟨d0,d1,d2,g0,g1,g2⟩ := three_cs A2.out
      have dl := lt_of_block A2.out
      rw [Q.out] at R2
      obtain ⟨gg,nn,cc,hvv,hnn,hcc,hgg,hST⟩ := TxRow.form R2.out (cut_ne 32 a)
      simp only [Value.slice.injEq] at hvv
      obtain ⟨rfl,rfl,rfl⟩ := hvv
      obtain ⟨W3,hW3⟩ : ∃ W,W = w2.setCell ⟨S,1,none⟩ (.int .i64 ((s.size : Int) + 1)) := ⟨_,rfl⟩
      have A3 : Hid (SAt W3 S s (s.size + 1) (ln + j + 1)) := hid (by rw [hW3,show ((s.size : Int) + 1) = ((s.size + 1 : Nat) : Int) by omega]; exact A2.out.at (s.size + 1))
      have R3 : Hid (TxRow W3 w.heap.size (.slice (some ⟨gg,0,none⟩) (nn + 1) cap2) (cut 32 a)) := hid (by rw [hW3]; exact row_far R2.out A2.out (by decide) _)
      have T3 : Hid (Tn (· = S) w W3) := hid (by rw [hW3]; exact T2.out.trans (Tn.one _))
      have ST3 := hid (TxRow.strs R3.out).1
      have CL : Hid (nn + 1 ≤ 1048576) := hid (by have h2 := cut_len 32 a; omega)
      have KS0 := isSkipped_any gg 0 nn cap2 (cut 32 a) W3 CL.out ST3.out
      have HW3 := hid hW3
      clear hW3 hST hnn hcc hgg
      by_cases hsk : skipB a = true
      ·have e : skipF (cut 32 a) = true := by rw [← hsk,SKI.out]; rfl
       rw [e] at KS0
       have KS := hid KS0
       have SK2 := hid (next_skip hSk.out LSJ.out.2.1 hsk)
       clear KS0 hsk e
       go_wp2_with fail
       rw [← HW3.out]
       clear HW3
       with_reducible refine KS.out.mono ?_
       rintro e w4 ⟨rfl,hw4⟩
       obtain rfl := hw4.symm
       go_wp2
       go_roundg (LS.length + 1 - (j + 1))
       case measure => have := LJ1.out; omega
       case rel => exact ⟨j + 1,s.size + 1,rfl,LJ1.out,hI2.out,DR,SK2,hid (by have := A3.out; rw [show ln + j + 1 = ln + (j + 1) by omega] at this; exact this),T3⟩
      ·have hsf : skipB a = false := by simpa using hsk
       have e : skipF (cut 32 a) = false := by rw [← hsf,SKI.out]; rfl
       rw [e] at KS0
       have KS := hid KS0
       have HSF := hid hsf
       clear KS0 hsk e hsf
       go_wp2_with fail
       rw [← HW3.out]
       clear HW3
       with_reducible refine KS.out.mono ?_
       rintro e w4 ⟨rfl,hw4⟩
       obtain rfl := hw4.symm
       go_wp2
       rw [Exit.noGoto_ret]
       go_ret2
       exact ⟨.inl ⟨j,_,s.size + 1,rfl,hSk.out,LSJ.out.1,by rw [LSJ.out.2.1]; exact HSF.out,by rw [LSJ.out.2.1]; exact R3.out,A3.out,hI2.out,DR.out.symm⟩,T3.out⟩
     ·have hlt' : (I : Int) < (s.size : Int) := by omega
      have nsz : ((I : Int) == (s.size : Int)) = false := by simp; omega
      have hch' : (s[I].toNat : Int) = 10 := by rw [hch]; rfl
      clear FIN hch
      go_wp2_with (at_builtin; refine wpList_append_own _ rfl (.tmp 59) (.tmp 67) 126 rfl w.heap.size 9 i0 (.string ⟨#[]⟩) 1 16 Tryz.underlying126 hi hz0 hz1 hz2 rfl (by decide) _ fs.length (fs.map tx) rfl (ownsRow_below hR.out (below1 _ _)) ⟨wr.heap.size,0,none⟩ 1 1 [tx x] rfl rfl (news_oneS wr _ _ rfl) (one_tx x) (by have := hfl.out; unfold maxLen; omega) (by have := hfl.out; omega) (by have := hT2.out.size; simp; omega) ?_)
      intro v' w2 hown' hgrow hnil
      obtain ⟨ao2,n2,cap2,rfl⟩ := row_form hown'
      have R2 : Hid (TxRow w2 w.heap.size (.slice ao2 n2 cap2) (fs ++ [x])) := hid (by unfold TxRow; simpa using hown')
      have T2 := hid (tn_grown hT2.out hR.out hgrow)
      have A2 := hid (sat_grown hA2.out hR.out hgrow)
      clear hown' hgrow hnil
      obtain ⟨d0,d1,d2,g0,g1,g2⟩ := three_cs A2.out
      have dl := lt_of_block A2.out
      rw [Q.out] at R2
      obtain ⟨gg,nn,cc,hvv,hnn,hcc,hgg,hST⟩ := TxRow.form R2.out (cut_ne 32 a)
      simp only [Value.slice.injEq] at hvv
      obtain ⟨rfl,rfl,rfl⟩ := hvv
      obtain ⟨W3,hW3⟩ : ∃ W,W = w2.setCell ⟨S,1,none⟩ (.int .i64 ((I : Int) + 1)) := ⟨_,rfl⟩
      have A3 : Hid (SAt W3 S s (I + 1) (ln + j + 1)) := hid (by rw [hW3,show ((I : Int) + 1) = ((I + 1 : Nat) : Int) by omega]; exact A2.out.at (I + 1))
      have R3 : Hid (TxRow W3 w.heap.size (.slice (some ⟨gg,0,none⟩) (nn + 1) cap2) (cut 32 a)) := hid (by rw [hW3]; exact row_far R2.out A2.out (by decide) _)
      have T3 : Hid (Tn (· = S) w W3) := hid (by rw [hW3]; exact T2.out.trans (Tn.one _))
      have ST3 := hid (TxRow.strs R3.out).1
      have CL : Hid (nn + 1 ≤ 1048576) := hid (by have h2 := cut_len 32 a; omega)
      have KS0 := isSkipped_any gg 0 nn cap2 (cut 32 a) W3 CL.out ST3.out
      have HW3 := hid hW3
      clear hW3 hST hnn hcc hgg
      by_cases hsk : skipB a = true
      ·have e : skipF (cut 32 a) = true := by rw [← hsk,SKI.out]; rfl
       rw [e] at KS0
       have KS := hid KS0
       have SK2 := hid (next_skip hSk.out LSJ.out.2.1 hsk)
       clear KS0 hsk e
       go_wp2_with fail
       rw [← HW3.out]
       clear HW3
       with_reducible refine KS.out.mono ?_
       rintro e w4 ⟨rfl,hw4⟩
       obtain rfl := hw4.symm
       go_wp2
       go_roundg (LS.length + 1 - (j + 1))
       case measure => have := LJ1.out; omega
       case rel => exact ⟨j + 1,I + 1,rfl,LJ1.out,hI2.out,DR,SK2,hid (by have := A3.out; rw [show ln + j + 1 = ln + (j + 1) by omega] at this; exact this),T3⟩
      ·have hsf : skipB a = false := by simpa using hsk
       have e : skipF (cut 32 a) = false := by rw [← hsf,SKI.out]; rfl
       rw [e] at KS0
       have KS := hid KS0
       have HSF := hid hsf
       clear KS0 hsk e hsf
       go_wp2_with fail
       rw [← HW3.out]
       clear HW3
       with_reducible refine KS.out.mono ?_
       rintro e w4 ⟨rfl,hw4⟩
       obtain rfl := hw4.symm
       go_wp2
       rw [Exit.noGoto_ret]
       go_ret2
       exact ⟨.inl ⟨j,_,I + 1,rfl,hSk.out,LSJ.out.1,by rw [LSJ.out.2.1]; exact HSF.out,by rw [LSJ.out.2.1]; exact R3.out,A3.out,hI2.out,DR.out.symm⟩,T3.out⟩
  ·have hp' : ¬ (p : Int) ≤ (s.size : Int) := by omega
   have hd : decide ((p : Int) ≤ (s.size : Int)) = false := by simpa using hp'
   have E : Hid (∀ i,i < LS.length → skipB (LS.getD i []) = true) := hid (by
    have e := hD.out
    unfold linesFrom at e
    rw [if_neg (by rw [HL.out]; exact hple)] at e
    have : LS.length ≤ j := by have := congrArg List.length e; simp at this; omega
    intro i hi
    exact hSk.out i (by omega))
   go_wp2
   go_quiet (fail)
   go_wp2
   rw [Exit.noGoto_ret]
   go_ret2
   exact ⟨.inr ⟨rfl,E.out⟩,hT.out.trans (Tn.of_below (belowDraws (Below.refl _ _) nq))⟩
end Go.Proofs.YtkdgkomnbjepdaaGreatDoor

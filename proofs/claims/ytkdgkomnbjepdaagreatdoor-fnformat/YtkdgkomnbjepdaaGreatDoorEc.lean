import Derived.Test.YtkdgkomnbjepdaaGreatDoorRl3
import Derived.Test.YtkdgkomnbjepdaaGreatDoorRl4
import Derived.Test.YtkdgkomnbjepdaaGreatDoorEb
import Derived.Test.YtkdgkomnbjepdaaGreatDoorLd
namespace Go.Proofs.YtkdgkomnbjepdaaGreatDoor
open Go.RowKit Go.Sort
set_option linter.unusedVariables false
attribute [local go_sem ↓] Go.wp_at_zero Go.wp_at_succ
set_option maxRecDepth 100000 in
set_option maxHeartbeats 1600000 in
theorem line_unknown (b off n c M : Nat) (B Q : Nat) (G : SyG) (bg : Bool) (X : List Rw) (fs : List (List UInt8)) (w : World) (h : Sl w B (rdB Q G bg :: (G.rows ++ X))) (hs : StrsOf w (some ⟨b,off,none⟩) (n + 1) fs) (hM : w.heap[M]? = some (.map (rdMap Q) 10)) (hno : lineW G.dat (fs.getD 0 []) fs.tail bg = none)
  (h0 : ¬ fs.getD 0 [] = kSig) (h1 : ¬ fs.getD 0 [] = kObj) (h2 : ¬ fs.getD 0 [] = kTim) (h3 : ¬ fs.getD 0 [] = kVar) (h4 : ¬ fs.getD 0 [] = kSub) (h5 : ¬ fs.getD 0 [] = kSta) (h6 : ¬ fs.getD 0 [] = kOn) (h7 : ¬ fs.getD 0 [] = kEnt) (h8 : ¬ fs.getD 0 [] = kExi) (h9 : ¬ fs.getD 0 [] = kDo) :
  Calls Tryz.prog 49 #[.slice (some ⟨b,off,none⟩) (n + 1) c,.map (some M)] w fun e w' => LnI B Q G bg X fs w e w' := by
 obtain ⟨c0,hbl,_⟩ := hs.one
 obtain ⟨s,hs⟩ : ∃ s : ByteArray,s = ⟨(fs.getD 0 []).toArray⟩ := ⟨_,rfl⟩
 have c0' : w.cell? ⟨b,off,none⟩ = some (.string s) := by rw [hs]; exact c0
 have hb : fs.getD 0 [] = bl s := ba_bl.1 hs.symm
 have LK := look_not (W := w) s hM (find_not Q s (fun e => h0 (by rw [hb,e]; rfl)) (fun e => h1 (by rw [hb,e]; rfl)) (fun e => h3 (by rw [hb,e]; rfl)) (fun e => h4 (by rw [hb,e]; rfl)) (fun e => h5 (by rw [hb,e]; rfl)) (fun e => h7 (by rw [hb,e]; rfl)) (fun e => h8 (by rw [hb,e]; rfl)) (fun e => h6 (by rw [hb,e]; rfl)) (fun e => h9 (by rw [hb,e]; rfl)) (fun e => h2 (by rw [hb,e]; rfl)))
 obtain ⟨te,pe,hk⟩ := h.vars.v.key
 have H := hid h
 have NO := hid hno
 clear hM h0 h1 h2 h3 h4 h5 h6 h7 h8 h9 c0 hs hb h hno
 go_enter Tryz.func49,Tryz.ntmps49
 go_wp2
 go_ret
 exact ⟨Bm.refl _ _,.inr ⟨NO.out,⟨te,pe,rfl⟩,H.out.sub (List.Sublist.cons _ (List.sublist_append_of_sublist_right (List.Sublist.refl _)))⟩⟩
theorem readLine_any (b off n c M : Nat) (B Q : Nat) (G : SyG) (bg : Bool) (X : List Rw) (fs : List (List UInt8)) (w : World) (h : Sl w B (rdB Q G bg :: (G.rows ++ X))) (hz : SmD G.dat 1048575) (hbg : bg = false → G.dat.obs = []) (hn : n + 1 ≤ 1048576) (hc : n + 1 ≤ c) (hfl : ∀ f ∈ fs,f.length ≤ 1048576) (hs : StrsOf w (some ⟨b,off,none⟩) (n + 1) fs) (ht : TagS w (some ⟨b,off,none⟩) (n + 1)) (hM : w.heap[M]? = some (.map (rdMap Q) 10)) :
  Calls Tryz.prog 49 #[.slice (some ⟨b,off,none⟩) (n + 1) c,.map (some M)] w fun e w' => LnI B Q G bg X fs w e w' := by
 by_cases k0 : fs.getD 0 [] = kSig
 ·exact line_kSig bSig b off n c M B Q G bg X fs w h hn hc hfl hs ht k0 (fun W hW => look_at bSig 0 (fnV 50 Q) hW (by rfl)) hM (fun W F hS => by rw [k0]; exact readSignals_any hS hz hbg)
 by_cases k1 : fs.getD 0 [] = kObj
 ·exact line_kObj bObj b off n c M B Q G bg X fs w h hn hc hfl hs ht k1 (fun W hW => look_at bObj 1 (fnV 51 Q) hW (by rfl)) hM (fun W F hS => by rw [k1]; exact readObject_any hS hz hbg)
 by_cases k2 : fs.getD 0 [] = kTim
 ·exact line_kTim bTim b off n c M B Q G bg X fs w h hn hc hfl hs ht k2 (fun W hW => look_at bTim 9 (fnV 59 Q) hW (by rfl)) hM (fun W F hS => by rw [k2]; exact readTimer_any hS hz hbg)
 by_cases k3 : fs.getD 0 [] = kVar
 ·exact line_kVar bVar b off n c M B Q G bg X fs w h hn hc hfl hs ht k3 (fun W hW => look_at bVar 2 (fnV 52 Q) hW (by rfl)) hM (fun W F hS => by rw [k3]; exact readVar_any hS hz hbg)
 by_cases k4 : fs.getD 0 [] = kSub
 ·exact line_kSub bSub b off n c M B Q G bg X fs w h hn hc hfl hs ht k4 (fun W hW => look_at bSub 3 (fnV 53 Q) hW (by rfl)) hM (fun W F hS => by rw [k4]; exact readSub_any hS hz hbg)
 by_cases k5 : fs.getD 0 [] = kSta
 ·exact line_kSta bSta b off n c M B Q G bg X fs w h hn hc hfl hs ht k5 (fun W hW => look_at bSta 4 (fnV 54 Q) hW (by rfl)) hM (fun W F hS => by rw [k5]; exact readState_any hS hz hbg)
 by_cases k6 : fs.getD 0 [] = kOn
 ·exact line_kOn bOn b off n c M B Q G bg X fs w h hn hc hfl hs ht k6 (fun W hW => look_at bOn 7 (fnV 57 Q) hW (by rfl)) hM (fun W F hS => by rw [k6]; exact readOn_any hS hz hbg)
 by_cases k7 : fs.getD 0 [] = kEnt
 ·exact line_kEnt bEnt b off n c M B Q G bg X fs w h hn hc hfl hs ht k7 (fun W hW => look_at bEnt 5 (fnV 55 Q) hW (by rfl)) hM (fun W F hS => by rw [k7]; exact readEntry_any hS hz hbg)
 by_cases k8 : fs.getD 0 [] = kExi
 ·exact line_kExi bExi b off n c M B Q G bg X fs w h hn hc hfl hs ht k8 (fun W hW => look_at bExi 6 (fnV 56 Q) hW (by rfl)) hM (fun W F hS => by rw [k8]; exact readExit_any hS hz hbg)
 by_cases k9 : fs.getD 0 [] = kDo
 ·exact line_kDo bDo b off n c M B Q G bg X fs w h hn hc hfl hs ht k9 (fun W hW => look_at bDo 8 (fnV 58 Q) hW (by rfl)) hM (fun W F hS => by rw [k9]; exact readDo_any hS hz hbg)
 refine line_unknown b off n c M B Q G bg X fs w h hs hM ?_ k0 k1 k2 k3 k4 k5 k6 k7 k8 k9
 cases bg with
 | false => exact lineW_un _ _ k0
 | true => exact lineW_else _ _ k0 k1 k2 k3 k4 k5 k6 k7 k8 k9
end Go.Proofs.YtkdgkomnbjepdaaGreatDoor
namespace Go.Proofs.YtkdgkomnbjepdaaGreatDoor
open Go.RowKit Go.Sort
set_option linter.unusedVariables false
attribute [local go_sem ↓] Go.wp_at_zero Go.wp_at_succ
abbrev scB (S : Nat) (s : ByteArray) (k ln : Nat) : Rw := boxR 125 S [.string s,.int .i64 k,.int .i64 ln]
theorem Sl.perm {w : World} {B : Nat} {L L' : List Rw} (h : Sl w B L) (hp : L.Perm L') : Sl w B L' := ⟨h.vars,h.flat.perm hp,h.nof.perm hp,h.lo,h.hi⟩
theorem Sl.noscan {w w' : World} {B S k ln : Nat} {s : ByteArray} {L : List Rw} (h : Sl w B (scB S s k ln :: L)) (ht : Tn (· = S) w w') : Sl w' B L ∧ Bm B w w' := by
 have hS := box_blk h.flat.head
 have hSB : B ≤ S := (h.flat.head.lt S rfl).1
 have hlo := h.lo
 have bm : Bm B w w' := Bm.tn ht h.hi (fun b e => by omega) (fun b e es n h2 => by rw [e,hS] at h2; cases h2)
 refine ⟨⟨h.vars.tn ht (fun g hg e => by omega),h.flat.tail.keep (fun r hr b hl hb => ht.block b hl (fun e => ?_)),h.nof.tail,h.lo,Nat.le_trans h.hi ht.size⟩,bm⟩
 exact h.flat.apart r hr S rfl (by rw [← e]; exact hb)
theorem Sl.scan {w w' : World} {B S k ln k' ln' : Nat} {s : ByteArray} {L : List Rw} (h : Sl w B (scB S s k ln :: L)) (ht : Tn (· = S) w w') (hS' : SAt w' S s k' ln') : Sl w' B (scB S s k' ln' :: L) ∧ Bm B w w' := by
 obtain ⟨h1,h2⟩ := h.noscan ht
 refine ⟨⟨h1.vars,⟨fun r hr => ?_,List.pairwise_cons.2 ⟨fun x hx g hg => ?_,h1.flat.far⟩⟩,h1.nof.cons (h.nof _ (List.mem_cons_self ..)).1 (h.nof _ (List.mem_cons_self ..)).2,h.lo,h1.hi⟩,h2⟩
 ·rcases List.mem_cons.1 hr with rfl | hq
  ·exact box_own hS' (h.flat.head.lt S rfl).1
  ·exact h1.flat.own r hq
 ·exact h.flat.apart x hx g hg
theorem sc_perm {Q : Nat} {G : SyG} {bg : Bool} {r : Rw} : (rdB Q G bg :: (G.rows ++ [r])).Perm (r :: rdB Q G bg :: G.rows) := by
 refine perm_count fun f g hf => ?_
 simp only [hf.c,hf.a,hf.z]
 omega
theorem getD_dropL (LS : List (List UInt8)) (c i : Nat) : (LS.drop c).getD i [] = LS.getD (c + i) [] := by simp [List.getD_eq_getElem?_getD]
theorem sysW_skips {LS : List (List UInt8)} {d : SyD} {bg : Bool} : ∀ (j c : Nat),c + j ≤ LS.length → (∀ i,i < j → skipB ((LS.drop c).getD i []) = true) → sysW (LS.drop c) c d bg = sysW (LS.drop (c + j)) (c + j) d bg
 | 0,c,_,_ => rfl
 | j + 1,c,h,hs => by
  have h0 := hs 0 (by omega)
  rw [getD_dropL,Nat.add_zero] at h0
  rw [sysW_skip (by omega) h0,sysW_skips j (c + 1) (by omega) (fun i hi => by have := hs (i + 1) (by omega); rw [getD_dropL] at this ⊢; rw [show c + 1 + i = c + (i + 1) by omega]; exact this),show c + 1 + j = c + (j + 1) by omega]
theorem sysW_nil (k k' : Nat) (d : SyD) (bg : Bool) : sysW [] k d bg = sysW [] k' d bg := rfl
theorem sysW_end {LS : List (List UInt8)} {d : SyD} {bg : Bool} {c : Nat} (hc : c ≤ LS.length) (h : ∀ i,i < (LS.drop c).length → skipB ((LS.drop c).getD i []) = true) : sysW (LS.drop c) c d bg = sysW [] 0 d bg := by
 have := sysW_skips (d := d) (bg := bg) (LS.length - c) c (by omega) (fun i hi => h i (by simp; omega))
 rw [this,show c + (LS.length - c) = LS.length by omega,List.drop_length]
 exact sysW_nil _ _ _ _
theorem TxRow.tag {w : World} {B n cap : Nat} {ao : Option Addr} {fs : List (List UInt8)} (h : TxRow w B (.slice ao n cap) fs) : TagS w ao n := fun hn => by
 rcases h.2 with ⟨h0,h1⟩ | ⟨g,cap',cur,h1,h2,h3,h4⟩
 ·simp only [Value.slice.injEq] at h0; omega
 ·simp only [Value.slice.injEq] at h1
  exact ⟨g,0,cur,(0,0),h1.1,h3⟩
def LinesTo (B Q : Nat) (LS : List (List UInt8)) (e : Ending) (w' : World) : Prop :=
 (∃ (G : SyG) (bg : Bool),sysW LS 0 sy0 false = sysW [] 0 G.dat bg ∧ e = .returned .nilIface ∧ Sl w' B (rdB Q G bg :: G.rows)) ∨
 (∃ (n : Nat) (L : Nat) (x : Value),sysW LS 0 sy0 false = (sy0,((n + 1 : Nat) : Int)) ∧ e = .returned (.iface 98 (.pointer (some ⟨L,0,none⟩))) ∧ w'.heap[L]? = some (.cells #[.int .i64 ((n + 1 : Nat) : Int),x] 102 (0,0)))
def LoopS (B Q M S : Nat) (s : ByteArray) (LS : List (List UInt8)) (w0 : World) (m : Nat) (l o : Value) (wr : World) : Prop :=
 ∃ (G : SyG) (bg : Bool),wr.heap[M]? = some (.map (rdMap Q) 10) ∧ Bm B w0 wr ∧ (bg = false → G.dat = sy0) ∧
  ((∃ c k,o = .bool true ∧ m = LS.length - c ∧ c < LS.length ∧ skipB (LS.getD c []) = false ∧ SmD G.dat c ∧ sysW LS 0 sy0 false = sysW (LS.drop c) c G.dat bg ∧ TxRow wr B l (cut 32 (LS.getD c [])) ∧ Sl wr B (rdB Q G bg :: (G.rows ++ [scB S s k (c + 1)])) ∧ k ≤ s.size + 1 ∧ linesFrom (bl s) k = LS.drop (c + 1)) ∨
   (o = .bool false ∧ sysW LS 0 sy0 false = sysW [] 0 G.dat bg ∧ Sl wr B (rdB Q G bg :: G.rows) ∧ ∃ a n c,l = .slice a n c))
theorem loop_next {B Q M S : Nat} {s : ByteArray} {LS : List (List UInt8)} {w0 w w' : World} {G : SyG} {bg : Bool} {c k : Nat} {e : Ending} (hm : w.heap[M]? = some (.map (rdMap Q) 10)) (hb : Bm B w0 w) (hbg : bg = false → G.dat = sy0) (hz : SmD G.dat c) (hc : c ≤ LS.length) (hscr : sysW LS 0 sy0 false = sysW (LS.drop c) c G.dat bg) (hl : Sl w B (rdB Q G bg :: (G.rows ++ [scB S s k c]))) (hk : linesFrom (bl s) k = LS.drop c)
  (hn : NextTo S s k c w.heap.size e w') (ht : Tn (· = S) w w') : ∃ l o,e = .returned (.tuple #[l,o]) ∧ (∃ a n c,l = .slice a n c) ∧ (∃ b,o = .bool b) ∧ ∃ m,m ≤ LS.length - c ∧ LoopS B Q M S s LS w0 m l o w' := by
 have hl' := hl.perm sc_perm
 rcases hn with ⟨j,l,k',rfl,h1,h2,h3,h4,h5,h6,h7⟩ | ⟨rfl,h1⟩
 ·rw [hk] at h1 h2 h3 h4 h7
  have hlc : c + j < LS.length := by simp at h2; omega
  rw [getD_dropL] at h3 h4
  obtain ⟨k1,k2⟩ := hl'.scan ht h5
  refine ⟨l,.bool true,rfl,row_form h4,⟨_,rfl⟩,LS.length - (c + j),by omega,G,bg,k2.mp _ _ _ hm,hb.trans k2,hbg,.inl ⟨c + j,k',rfl,rfl,hlc,h3,hz.mono (by omega),?_,row_base h4 hl.hi,k1.perm sc_perm.symm,h6,?_⟩⟩
  ·rw [hscr]; exact sysW_skips j c (by omega) h1
  ·rw [h7,List.drop_drop]; congr 1
 ·rw [hk] at h1
  obtain ⟨k1,k2⟩ := hl'.noscan ht
  refine ⟨.slice none 0 0,.bool false,rfl,⟨_,_,_,rfl⟩,⟨_,rfl⟩,0,Nat.zero_le _,G,bg,k2.mp _ _ _ hm,hb.trans k2,hbg,.inr ⟨rfl,?_,k1,⟨_,_,_,rfl⟩⟩⟩
  rw [hscr]; exact sysW_end hc h1
set_option maxRecDepth 100000 in
set_option maxHeartbeats 4000000 in
theorem readLines_any (B Q M : Nat) (s : ByteArray) (w : World) (hs : s.size ≤ 30000) (hl : Sl w B (rdB Q syG0 false :: syG0.rows)) (hm : w.heap[M]? = some (.map (rdMap Q) 10)) :
  Calls Tryz.prog 28 #[.string s,.map (some M)] w fun e w' => LinesTo B Q (cut 10 (bl s)) e w' ∧ Bm B w w' := by
 obtain ⟨LS,hLS⟩ : ∃ l,l = cut 10 (bl s) := ⟨_,rfl⟩
 have hL0 : linesFrom (bl s) 0 = LS := by unfold linesFrom; rw [if_pos (Nat.zero_le _),hLS]; simp
 have LLn : LS.length ≤ 30001 := by rw [hLS]; have := cut_len 10 (bl s); rw [bl_len] at this; omega
 have LE : ∀ f ∈ LS,f.length ≤ 30000 := by intro f hf; rw [hLS] at hf; have := cut_each 10 (bl s) f hf; rw [bl_len] at this; omega
 rw [← hLS]
 obtain ⟨W0,hW0⟩ : ∃ W,W = w.alloc (.cells #[.string s,.int .i64 0,.int .i64 0] 125) := ⟨_,rfl⟩
 have BW : Below w.heap.size w W0 := by rw [hW0]; exact below1 _ _
 have S0 : SAt W0 w.heap.size s 0 0 := by rw [hW0]; exact heap_alloc_new _ _
 have L0 : Sl W0 B (rdB Q syG0 false :: (syG0.rows ++ [scB w.heap.size s 0 0])) := by
  have h1 := hl.below BW
  refine Sl.perm (L := scB w.heap.size s 0 0 :: rdB Q syG0 false :: syG0.rows) ⟨h1.vars,?_,h1.nof.cons (show 125 ≠ 9 by decide) (show 125 ≠ 168 by decide),h1.lo,h1.hi⟩ sc_perm.symm
  rw [hW0]
  exact hl.flat.box hl.hi 125 [.string s,.int .i64 0,.int .i64 0]
 have C0 := next_line w.heap.size s 0 0 W0 (by omega) (by omega) (by omega) S0
 have C1 : Calls Tryz.prog 48 #[.pointer (some ⟨w.heap.size,0,none⟩)] W0 fun e w' => ∃ l o,e = .returned (.tuple #[l,o]) ∧ (∃ a n c,l = .slice a n c) ∧ (∃ b,o = .bool b) ∧ ∃ m,m ≤ LS.length - 0 ∧ LoopS B Q M w.heap.size s LS w m l o w' := C0.mono (by
  rintro e w' ⟨h1,h2⟩
  exact loop_next (G := syG0) (c := 0) (k := 0) (block_below hm BW) (Bm.new BW hl.hi) (fun _ => rfl) (sm_zero _) (Nat.zero_le _) (by simp [show syG0.dat = sy0 from rfl]) L0 (by rw [hL0]; simp) h1 h2)
 have HC := hid C1
 have HW0 := hid hW0
 have HLE := hid LE
 clear hl hm hLS hL0 LE hW0 BW S0 C0 C1 L0
 go_enter Tryz.func28,Tryz.ntmps28
 go_wp2_with fail
 rw [← HW0.out]
 clear HW0
 with_reducible refine HC.out.mono ?_
 rintro e w1 ⟨l,o,rfl,⟨la,lm,lc,rfl⟩,⟨ob,rfl⟩,m0,hm0,hl0⟩
 have H1 := hid hl0
 clear hl0 HC
 go_wp2
 go_loopg [6,7] m0 (fun m l o wr => m ≤ LS.length ∧ (∃ a n c,l = .slice a n c) ∧ (∃ b,o = .bool b) ∧ Hid (LoopS B Q M w.heap.size s LS w m l o wr))
 case atStart => exact ⟨by omega,⟨_,_,_,rfl⟩,⟨_,rfl⟩,H1⟩
 case round =>
  obtain ⟨hm,⟨la,lm,lc,rfl⟩,⟨ob,rfl⟩,HH⟩ := hrel
  cases ob with
  | false =>
   obtain ⟨G,bg,hmm,hb,hbg,h | ⟨_,h2,h3,_⟩⟩ := HH.out
   ·obtain ⟨c,k,h,_⟩ := h; cases h
   ·have HA := hid h2
    have HR := hid h3
    have HB := hid hb
    clear HH hmm hb h2 h3 hbg
    go_wp2
    go_ret
    exact ⟨.inl ⟨G,bg,HA.out,rfl,HR.out⟩,HB.out⟩
  | true =>
   obtain ⟨G,bg,hmm,hb,hbg,⟨c,k,_,hmc,hc,hsk,hz,hscr,hrow,hS,hk,hlk⟩ | ⟨h,_⟩⟩ := HH.out
   ·obtain ⟨g,n,cap,hvv,hfn,hcap,hgB,hst⟩ := TxRow.form hrow (cut_ne 32 _)
    simp only [Value.slice.injEq] at hvv
    obtain ⟨rfl,rfl,rfl⟩ := hvv
    have hlc : (LS.getD c []).length ≤ 30000 := HLE.out _ (by simp [List.getD_eq_getElem?_getD,hc])
    have hnl : n + 1 ≤ 30001 := by have := cut_len 32 (LS.getD c []); omega
    have hbg2 : bg = false → G.dat.obs = [] := fun e => by rw [hbg e]; rfl
    have C := readLine_any g 0 n lc M B Q G bg [scB w.heap.size s k (c + 1)] (cut 32 (LS.getD c [])) wr hS (hz.mono (by omega)) hbg2 (by omega) hcap (fun f hf => by have := cut_each 32 (LS.getD c []) f hf; omega) hst hrow.tag hmm
    cases hok : lineW G.dat ((cut 32 (LS.getD c [])).getD 0 []) (cut 32 (LS.getD c [])).tail bg with
    | some d =>
     have C2 : Hid (Calls Tryz.prog 49 #[.slice (some ⟨g,0,none⟩) (n + 1) lc,.map (some M)] wr fun e w' => e = .returned .nilIface ∧ ∃ G' : SyG,G'.dat = d ∧ w'.heap[M]? = some (.map (rdMap Q) 10) ∧ Bm B w w' ∧ Sl w' B (rdB Q G' true :: (G'.rows ++ [scB w.heap.size s k (c + 1)]))) := hid (C.mono (by
      rintro e w' ⟨hb1,⟨G',h1,rfl,h3⟩ | ⟨h1,_⟩⟩
      ·rw [hok] at h1
       injection h1 with h1
       exact ⟨rfl,G',h1.symm,hb1.mp _ _ _ hmm,hb.trans hb1,h3⟩
      ·rw [hok] at h1; cases h1))
     have Q1 : Hid (sysW LS 0 sy0 false = sysW (LS.drop (c + 1)) (c + 1) d true) := hid (by rw [hscr]; exact sysW_line hc hsk hok)
     have SM := hid (lineW_sm hz hok)
     have HLK := hid hlk
     have HK := hid hk
     have HMC := hid hmc
     clear HH hmm hb hscr hrow hS hst C hok hlk hfn hmc hz hbg hbg2
     go_wp2_with (go_at_call 49; with_reducible refine C2.out.mono ?_)
     rintro e w2 ⟨rfl,G',hd,hm2,hb2,hs2⟩
     subst hd
     have sc2 : SAt w2 w.heap.size s k (c + 1) := by
      have := box_blk (hs2.flat.own (scB w.heap.size s k (c + 1)) (by simp))
      exact this
     have N2 := next_line w.heap.size s k (c + 1) w2 (by omega) HK.out (by omega) sc2
     have N3 : Hid (Calls Tryz.prog 48 #[.pointer (some ⟨w.heap.size,0,none⟩)] w2 fun e w' => ∃ l o,e = .returned (.tuple #[l,o]) ∧ (∃ a n c,l = .slice a n c) ∧ (∃ b,o = .bool b) ∧ ∃ m,m ≤ LS.length - (c + 1) ∧ LoopS B Q M w.heap.size s LS w m l o w') := hid (N2.mono (by
      rintro e w' ⟨h1,h2⟩
      exact loop_next (c := c + 1) (k := k) hm2 hb2 (fun e => by cases e) SM.out (by omega) Q1.out hs2 HLK.out h1 h2))
     clear hm2 hb2 hs2 N2 sc2
     go_wp2_with (go_at_call 48; with_reducible refine N3.out.mono ?_)
     rintro e w3 ⟨l,o,rfl,⟨la,lm,lc',rfl⟩,⟨ob,rfl⟩,m3,hm3,hl3⟩
     have H3 := hid hl3
     clear hl3
     go_wp2
     go_roundg m3
     case measure => have := HMC.out; omega
     case rel => exact ⟨by omega,⟨_,_,_,rfl⟩,⟨_,rfl⟩,H3⟩
    | none =>
     have C2 : Hid (Calls Tryz.prog 49 #[.slice (some ⟨g,0,none⟩) (n + 1) lc,.map (some M)] wr fun e w' => (∃ te pe,e = .returned (.iface te pe)) ∧ Bm B w w' ∧ SAt w' w.heap.size s k (c + 1) ∧ B ≤ w'.heap.size) := hid (C.mono (by
      rintro e w' ⟨hb1,⟨G',h1,_⟩ | ⟨h1,h2,h3⟩⟩
      ·rw [hok] at h1; cases h1
      ·exact ⟨h2,hb.trans hb1,box_blk (h3.flat.own (scB w.heap.size s k (c + 1)) (by simp)),h3.hi⟩))
     have Q1 : Hid (sysW LS 0 sy0 false = (sy0,((c + 1 : Nat) : Int))) := hid (by
      rw [hscr,sysW_wrong hc hsk hok]
      push_cast; rfl)
     clear HH hmm hb hscr hrow hS hst C hlk hfn hmc hok hz hbg hbg2
     go_wp2_with (go_at_call 49; with_reducible refine C2.out.mono ?_)
     rintro e w2 ⟨⟨te,pe,rfl⟩,hb2,hs2,hB2⟩
     have HB2 := hid hb2
     have HBB := hid hB2
     obtain ⟨d0,d1,d2,g0,g1,g2⟩ := three_cs hs2
     have dl := lt_of_block hs2
     clear hb2 hs2 hB2
     go_wp2
     go_ret
     exact ⟨.inr ⟨c,w2.heap.size,.iface te pe,Q1.out,rfl,heap_alloc_new _ _⟩,HB2.out.trans (Bm.new (below1 _ _) HBB.out)⟩
   ·cases h
end Go.Proofs.YtkdgkomnbjepdaaGreatDoor

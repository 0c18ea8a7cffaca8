import Derived.Test.YtkdgkomnbjepdaaGreatDoorQa
namespace Go.Proofs.YtkdgkomnbjepdaaGreatDoor
open Go.RowKit Go.Sort
set_option linter.unusedVariables false
attribute [local go_sem ↓] Go.wp_at_zero Go.wp_at_succ
theorem PenP.flag {B P : Nat} {p : Value} {l : List UInt8} {i : Bool} {w : World} (h : PenP w B P p l i) (j : Bool) : PenP (w.setCell ⟨P,2,none⟩ (.bool j)) B P p l j := by
 obtain ⟨hB,v,hb,ho,hn⟩ := h
 exact ⟨hB,v,by rw [heap_setCell_same w P 2 _ _ _ hb]; simp,ownsRow_at ho (fun b _ hb2 => Below.heap_setCell _ _ _ _ (fun e => hn (by rw [hb2,e]))),hn⟩
theorem PenAt.flag {B P : Nat} {l : List UInt8} {i : Bool} {w : World} (h : PenAt w B P l i) (j : Bool) : PenAt (w.setCell ⟨P,2,none⟩ (.bool j)) B P l j := by
 rcases h with h | h
 ·exact .inl (h.flag j)
 ·exact .inr (h.flag j)
theorem PenAt.box {B P : Nat} {l : List UInt8} {i : Bool} {w : World} (h : PenAt w B P l i) : B ≤ P ∧ P < w.heap.size ∧ w.cell? ⟨P,2,none⟩ = some (.bool i) ∧ w.frozen? ⟨P,2,none⟩ = false := by
 rcases h with ⟨hB,v,hb,_⟩ | ⟨hB,v,hb,_⟩
 ·exact ⟨hB,lt_of_block hb,by simp [World.cell?,hb],by simp [World.frozen?,hb]⟩
 ·exact ⟨hB,lt_of_block hb,by simp [World.cell?,hb],by simp [World.frozen?,hb]⟩
theorem PenP.below {B P : Nat} {p : Value} {l : List UInt8} {i : Bool} {w w' : World} (h : PenP w B P p l i) (hb : Below w.heap.size w w') : PenP w' B P p l i := by
 obtain ⟨hB,v,hbk,ho,hn⟩ := h
 exact ⟨hB,v,block_below hbk hb,ownsRow_at ho (fun b hl _ => hb.block b hl),hn⟩
theorem PenAt.below {B P : Nat} {l : List UInt8} {i : Bool} {w w' : World} (h : PenAt w B P l i) (hb : Below w.heap.size w w') : PenAt w' B P l i := by
 rcases h with h | h
 ·exact .inl (h.below hb)
 ·exact .inr (h.below hb)
def gap (i : Bool) : List UInt8 := if i then [32] else []
set_option maxHeartbeats 2000000 in
theorem word_pen (B P : Nat) (l x : List UInt8) (i : Bool) (w : World) (h : PenAt w B P l i) (hlen : l.length + x.length ≤ 100000000000000) (hBw : B ≤ w.heap.size) :
  Calls Tryz.prog 42 #[.pointer (some ⟨P,0,none⟩),.string ⟨x.toArray⟩] w fun e w' => e = .returned (.tuple #[]) ∧ PenAt w' B P (l ++ gap i ++ x) true ∧ Wr B P w w' := by
 obtain ⟨hBP,hPl,c2,f2⟩ := h.box
 have C1 := hid (writeByte_pen B P l i 32 w h (by omega) hBw)
 have C2 := hid (fun (w1 : World) (l1 : List UInt8) (h1 : PenAt w1 B P l1 i) (hl1 : l1.length ≤ l.length + 1) (hb1 : B ≤ w1.heap.size) => writeString_pen B P l1 x i w1 h1 (by omega) hb1)
 have H := hid h
 have HB := hid hBw
 obtain ⟨s,hs⟩ : ∃ s : ByteArray,s = ⟨x.toArray⟩ := ⟨_,rfl⟩
 rw [← hs] at C2 ⊢
 clear h hs hlen hBw
 cases i with
 | true =>
  go_enter Tryz.func42,Tryz.ntmps42
  go_wp2_with (first
   | (go_at_call 76; refine C1.out.mono ?_; rintro e w1 ⟨rfl,h1,k1⟩; have H1 := hid h1; have K1 := hid k1; clear h1 k1)
   | (go_at_call 77; refine (C2.out w1 _ H1.out (by simp) (Nat.le_trans HB.out K1.out.size)).mono ?_; rintro e w2 ⟨⟨v,rfl⟩,h2,k2⟩; obtain ⟨_,_,c3,f3⟩ := h2.box; have H2 := hid h2; have K2 := hid k2; clear h2 k2))
  go_end0
  exact ⟨rfl,by simpa [gap] using H2.out.flag true,(K1.out.trans K2.out).trans (Wr.set hBP _)⟩
 | false =>
  go_enter Tryz.func42,Tryz.ntmps42
  go_wp2_with (go_at_call 77; refine (C2.out w _ H.out (by omega) HB.out).mono ?_; rintro e w2 ⟨⟨v,rfl⟩,h2,k2⟩; obtain ⟨_,_,c3,f3⟩ := h2.box; have H2 := hid h2; have K2 := hid k2; clear h2 k2)
  go_end0
  exact ⟨rfl,by simpa [gap] using H2.out.flag true,K2.out.trans (Wr.set hBP _)⟩
set_option maxHeartbeats 2000000 in
theorem end_pen (B P : Nat) (l : List UInt8) (i : Bool) (w : World) (h : PenAt w B P l i) (hlen : l.length ≤ 100000000000000) (hBw : B ≤ w.heap.size) :
  Calls Tryz.prog 44 #[.pointer (some ⟨P,0,none⟩)] w fun e w' => e = .returned (.tuple #[]) ∧ PenAt w' B P (l ++ [10]) false ∧ Wr B P w w' := by
 obtain ⟨hBP,hPl,c2,f2⟩ := h.box
 have C1 := hid (writeByte_pen B P l i 10 w h (by omega) hBw)
 clear h hlen hBw
 go_enter Tryz.func44,Tryz.ntmps44
 go_wp2_with (go_at_call 76; refine C1.out.mono ?_; rintro e w1 ⟨rfl,h1,k1⟩; obtain ⟨_,_,c3,f3⟩ := h1.box; have H1 := hid h1; have K1 := hid k1; clear h1 k1)
 go_end0
 exact ⟨rfl,H1.out.flag false,K1.out.trans (Wr.set hBP _)⟩
structure Tabs (w : World) (B : Nat) : Prop where
 pow : Pow w
 it : ∃ tg fr,w.heap[5]? = some (.cells wordsC tg fr)
 fm : ∃ tg fr,w.heap[8]? = some (.cells formsC tg fr)
 lt : 12 < B
theorem pow_below {B : Nat} {w w' : World} (h : Pow w) (hb : Below B w w') (h3 : 12 < B) : Pow w' := by
 unfold Pow Lib.TabIs World.var? at *
 rw [pow_g] at h ⊢
 simpa [hb.block 10 (by omega)] using h
theorem Tabs.it' {w : World} {B : Nat} (h : Tabs w B) : w.heap[5]? = some (.cells wordsC h.it.choose h.it.choose_spec.choose) := h.it.choose_spec.choose_spec
theorem Tabs.fm' {w : World} {B : Nat} (h : Tabs w B) : w.heap[8]? = some (.cells formsC h.fm.choose h.fm.choose_spec.choose) := h.fm.choose_spec.choose_spec
theorem Tabs.below {w w' : World} {B : Nat} (h : Tabs w B) (hb : Below B w w') : Tabs w' B :=
 ⟨pow_below h.pow hb h.lt,⟨_,_,(hb.block 5 (by have := h.lt; omega)).trans h.it'⟩,⟨_,_,(hb.block 8 (by have := h.lt; omega)).trans h.fm'⟩,h.lt⟩
end Go.Proofs.YtkdgkomnbjepdaaGreatDoor
namespace Go.Proofs.YtkdgkomnbjepdaaGreatDoor
open Go.RowKit Go.Sort
set_option linter.unusedVariables false
attribute [local go_sem ↓] Go.wp_at_zero Go.wp_at_succ
theorem Wr.of {B P : Nat} {w w1 w2 : World} (h : Wr B P w w1) (hB : B ≤ w.heap.size) (k : Below w1.heap.size w1 w2) : Wr B P w w2 := h.trans (Wr.of_below (Nat.le_trans hB h.size) k)
set_option maxRecDepth 100000 in
set_option maxHeartbeats 4000000 in
theorem numbers_pen (B P : Nat) (l : List UInt8) (ns : List Int) (g c : Nat) (cs : Array Value) (w : World) (hT : Tabs w B) (h : PenAt w B P l true) (hlen : l.length ≤ 20000000000000) (hBw : B ≤ w.heap.size)
  (hg : w.heap[g]? = some (.cells cs 3 (0,0))) (hcs : ∀ j,j < ns.length → cs[j]? = some (.int .i64 (ns.getD j 0))) (hgP : g ≠ P) (hn : ns.length ≤ 10) (hi : ∀ j,j < ns.length → I64 (ns.getD j 0)) :
  Calls Tryz.prog 43 #[.pointer (some ⟨P,0,none⟩),.slice (some ⟨g,0,none⟩) ns.length c] w fun e w' => e = .returned (.tuple #[]) ∧ PenAt w' B P (l ++ numT ns ns.length) true ∧ Wr B P w w' := by
 obtain ⟨n,hnn⟩ : ∃ n,n = ns.length := ⟨_,rfl⟩
 rw [← hnn] at hn hcs hi ⊢
 have NL : Hid (∀ k,k ≤ n → (numT ns k).length ≤ 220) := hid (fun k hk => numT_l (by omega) (by rw [← hnn]; exact hi) (by omega))
 have HT := hid hT
 have H := hid h
 have HB := hid hBw
 have HG := hid hg
 have HC := hid hcs
 have HI := hid hi
 clear hT h hBw hg hcs hi hnn
 go_enter Tryz.func43,Tryz.ntmps43
 go_wp2
 go_loopw [8] (fun i wr => ∃ (k : Nat),k ≤ n ∧ i = .int .i64 k ∧ PenAt wr B P (l ++ numT ns k) true ∧ Wr B P w wr) (fun i _ => n - (intOf i).toNat)
 case atStart => exact ⟨0,Nat.zero_le _,rfl,by simpa [numT,catTo] using H.out,Wr.refl _ _ _⟩
 case round =>
  obtain ⟨k,hk,rfl,hp,hw⟩ := hrel
  have HP := hid hp
  have HW := hid hw
  clear hp hw
  by_cases hlt : k < n
  ·have blk := HW.out.fr g cs _ _ HG.out hgP (by decide)
   obtain ⟨z,hz⟩ : ∃ z,z = ns.getD k 0 := ⟨_,rfl⟩
   have c0 : wr.cell? ⟨g,k,none⟩ = some (.int .i64 z) := by rw [Lib.cell_of_heap blk,hz]; exact HC.out k hlt
   have gl := lt_of_block blk
   have hzi := HI.out k hlt
   rw [← hz] at hzi
   have C1 := hid (itoa_anyQ z hzi wr (HT.out.below HW.out.bel).pow)
   have nl := NL.out k hk
   have il := itoa_l hzi
   have C2 := hid (fun (w1 : World) (hb : Below wr.heap.size wr w1) => word_pen B P (l ++ numT ns k) (Lib.itoa z) true w1 (HP.out.below hb) (by simp; omega) (Nat.le_trans HB.out (Nat.le_trans HW.out.size hb.size)))
   have EZ : Hid (numT ns (k + 1) = numT ns k ++ ([32] ++ Lib.itoa z)) := hid (by rw [hz]; rfl)
   have HLT := hid hlt
   clear blk hz hzi nl il
   go_wp2_with (first
    | (go_at_call 78; refine C1.out.mono ?_; rintro e w1 ⟨rfl,hb1⟩; have B1 := hid hb1; clear hb1)
    | (go_at_call 42; refine (C2.out w1 B1.out).mono ?_; rintro e w2 ⟨rfl,h2,k2⟩; have H2 := hid h2; have K2 := hid k2; clear h2 k2))
   go_roundw
   case rel => exact ⟨k + 1,by have := HLT.out; omega,by go_num,by rw [EZ.out]; simpa [gap] using H2.out,(HW.out.of HB.out B1.out).trans K2.out⟩
   case measure => have := HLT.out; simp [intOf]; omega
  ·have e : k = n := by omega
   subst e
   go_wp2
   go_end0
   exact ⟨rfl,HP.out,HW.out⟩
set_option maxHeartbeats 4000000 in
theorem line_pen (B P : Nat) (l wd : List UInt8) (ns : List Int) (g c : Nat) (cs : Array Value) (w : World) (hT : Tabs w B) (h : PenAt w B P l false) (hlen : l.length ≤ 10000000000000) (hwd : wd.length ≤ 20) (hBw : B ≤ w.heap.size)
  (hg : w.heap[g]? = some (.cells cs 3 (0,0))) (hcs : ∀ j,j < ns.length → cs[j]? = some (.int .i64 (ns.getD j 0))) (hgP : g ≠ P) (hn : ns.length ≤ 10) (hi : ∀ j,j < ns.length → I64 (ns.getD j 0)) :
  Calls Tryz.prog 26 #[.pointer (some ⟨P,0,none⟩),.string ⟨wd.toArray⟩,.slice (some ⟨g,0,none⟩) ns.length c] w fun e w' => e = .returned (.tuple #[]) ∧ PenAt w' B P (l ++ lineT wd ns) false ∧ Wr B P w w' := by
 have nl := numT_l hn hi (Nat.le_refl _)
 have C1 := hid (word_pen B P l wd false w h (by omega) hBw)
 have C2 := hid (fun (w1 : World) (k1 : Wr B P w w1) (h1 : PenAt w1 B P (l ++ gap false ++ wd) true) => numbers_pen B P (l ++ gap false ++ wd) ns g c cs w1 (hT.below k1.bel) h1 (by simp [gap]; omega) (Nat.le_trans hBw k1.size) (k1.fr g cs _ _ hg hgP (by decide)) hcs hgP hn hi)
 have C3 := hid (fun (w1 : World) (k1 : Wr B P w w1) (h1 : PenAt w1 B P (l ++ gap false ++ wd ++ numT ns ns.length) true) => end_pen B P _ true w1 h1 (by simp [gap]; omega) (Nat.le_trans hBw k1.size))
 clear hT h hlen hwd hBw hg hcs hn hi nl
 go_enter Tryz.func26,Tryz.ntmps26
 go_wp2_with (first
  | (go_at_call 42; refine C1.out.mono ?_; rintro e w1 ⟨rfl,h1,k1⟩; have H1 := hid h1; have K1 := hid k1; clear h1 k1)
  | (go_at_call 43; refine (C2.out w1 K1.out H1.out).mono ?_; rintro e w2 ⟨rfl,h2,k2⟩; have H2 := hid h2; have K2 := hid (K1.out.trans k2); clear h2 k2)
  | (go_at_call 44; refine (C3.out w2 K2.out H2.out).mono ?_; rintro e w3 ⟨rfl,h3,k3⟩; have H3 := hid h3; have K3 := hid (K2.out.trans k3); clear h3 k3))
 go_end0
 exact ⟨rfl,by simpa [gap,lineT] using H3.out,K3.out⟩
set_option maxRecDepth 100000 in
set_option maxHeartbeats 4000000 in
theorem code_pen (w0 : World) (P : Nat) (l : List UInt8) (ao : Option Addr) (n c : Nat) (its : List (Int × Int)) (w : World) (hok : CodeOK its) (hs : ItemsOf w0 ao n its) (hw : Below w0.heap.size w0 w) (hT : Tabs w w0.heap.size) (h : PenAt w w0.heap.size P l true) (hlen : l.length ≤ 20000000000000) :
  Calls Tryz.prog 81 #[.pointer (some ⟨P,0,none⟩),.slice ao n c] w fun e w' => e = .returned (.tuple #[]) ∧ PenAt w' w0.heap.size P (l ++ codeT its n) true ∧ Wr w0.heap.size P w w' := by
 have HL := hid hs.1
 have hn : n ≤ 200 := by rw [← hs.1]; exact hok.1
 have HS := hid hs
 have HO := hid hok
 have HT := hid hT
 have H := hid h
 have HW0 := hid hw
 have HB : Hid (w0.heap.size ≤ w.heap.size) := hid hw.size
 clear hT h hw hok hs
 go_enter Tryz.func81,Tryz.ntmps81
 go_wp2
 go_loopw [8] (fun i wr => ∃ (k : Nat),k ≤ n ∧ i = .int .i64 k ∧ PenAt wr w0.heap.size P (l ++ codeT its k) true ∧ Wr w0.heap.size P w wr) (fun i _ => n - (intOf i).toNat)
 case atStart => exact ⟨0,Nat.zero_le _,rfl,by simpa [codeT,catTo] using H.out,Wr.refl _ _ _⟩
 case round =>
  obtain ⟨k,hk,rfl,hp,hw⟩ := hrel
  have HP := hid hp
  have HW := hid hw
  clear hp hw
  by_cases hlt : k < n
  ·obtain ⟨b,off,rfl,hbl,hc⟩ := HS.out.2 (by omega)
   obtain ⟨op,hop⟩ : ∃ z,z = (its.getD k (0,0)).1 := ⟨_,rfl⟩
   obtain ⟨v,hv⟩ : ∃ z,z = (its.getD k (0,0)).2 := ⟨_,rfl⟩
   have hok := HO.out.2 k (by rw [HL.out]; exact hlt)
   have BR : Hid (Below w0.heap.size w0 wr) := hid (HW0.out.trans HW.out.bel)
   have c0 := (BR.out.cell (p := ⟨b,off + k * 2,none⟩) hbl).trans (hc k hlt).1
   have c1 := (BR.out.cell (p := ⟨b,off + k * 2 + 1,none⟩) hbl).trans (hc k hlt).2
   have hT := codeT_l HO.out (n := k) (by rw [HL.out]; exact hk)
   have ES : Hid (codeT its (k + 1) = codeT its k ++ ([32] ++ wordT op v)) := hid (by rw [hop,hv]; rfl)
   rw [← hop] at c0
   rw [← hv] at c1
   rw [← hop,← hv] at hok
   have hWl := wordT_l hok
   have hbl' : b < wr.heap.size := Nat.lt_of_lt_of_le hbl BR.out.size
   have BX := below1 wr (.cells #[.int .i64 op,.int .i64 v] 107)
   have TX := (HT.out.below HW.out.bel).below (BX.mono (Nat.le_trans HB.out HW.out.size))
   have C1 := hid (wordOf_any op v hok (wr.alloc (.cells #[.int .i64 op,.int .i64 v] 107)) TX.pow TX.it' (fun w' hb' => pow_below TX.pow hb' (by have := TX.lt; have := Nat.le_trans HB.out HW.out.size; simp; omega)))
   have C2 := hid (fun (w1 : World) (hb : Below wr.heap.size wr w1) => word_pen w0.heap.size P (l ++ codeT its k) (wordT op v) true w1 (HP.out.below hb) (by simp; omega) (Nat.le_trans HB.out (Nat.le_trans HW.out.size hb.size)))
   have BXX := hid BX
   have HLT := hid hlt
   clear hc hop hv hok hT hWl BX TX
   go_wp2_with (first
    | (go_at_call 79; refine C1.out.mono ?_; rintro e w1 ⟨rfl,hb1⟩; have B1 := hid (BXX.out.trans (hb1.mono BXX.out.size)); clear hb1)
    | (go_at_call 42; refine (C2.out w1 B1.out).mono ?_; rintro e w2 ⟨rfl,h2,k2⟩; have H2 := hid h2; have K2 := hid k2; clear h2 k2))
   go_roundw
   case rel => exact ⟨k + 1,by have := HLT.out; omega,by go_num,by rw [ES.out]; simpa [gap] using H2.out,(HW.out.of HB.out B1.out).trans K2.out⟩
   case measure => have := HLT.out; simp [intOf]; omega
  ·have e : k = n := by omega
   subst e
   go_wp2
   go_end0
   exact ⟨rfl,HP.out,HW.out⟩
end Go.Proofs.YtkdgkomnbjepdaaGreatDoor
namespace Go.Proofs.YtkdgkomnbjepdaaGreatDoor
open Go.RowKit Go.Sort
set_option linter.unusedVariables false
attribute [local go_sem ↓] Go.wp_at_zero Go.wp_at_succ
theorem numsNp (B P : Nat) (l : List UInt8) (ns : List Int) (w : World) (hT : Tabs w B) (h : PenAt w B P l true) (hlen : l.length ≤ 20000000000000) (hB : B ≤ w.heap.size) (hn : ns.length ≤ 10) (hi : ∀ j,j < ns.length → I64 (ns.getD j 0)) :
  Calls Tryz.prog 43 #[.pointer (some ⟨P,0,none⟩),.slice (some ⟨w.heap.size,0,none⟩) ns.length ns.length] (w.alloc (.cells (ns.map (Value.int .i64)).toArray 3)) fun e w' => e = .returned (.tuple #[]) ∧ PenAt w' B P (l ++ numT ns ns.length) true ∧ Wr B P w w' := by
 have hb := below1 w (.cells (ns.map (Value.int .i64)).toArray 3)
 have hP := h.box.2.1
 refine (numbers_pen B P l ns w.heap.size ns.length _ _ (hT.below (hb.mono hB)) (h.below hb) hlen (Nat.le_trans hB hb.size) (heap_alloc_new w _) (fun j hj => ?_) (by omega) hn hi).mono ?_
 ·simp [List.getD_eq_getElem?_getD,hj]
 ·rintro e w' ⟨rfl,h1,h2⟩
  exact ⟨rfl,h1,(Wr.of_below hB hb).trans h2⟩
theorem lineN (B P : Nat) (l wd : List UInt8) (ns : List Int) (w : World) (hT : Tabs w B) (h : PenAt w B P l false) (hlen : l.length ≤ 10000000000000) (hwd : wd.length ≤ 20) (hB : B ≤ w.heap.size) (hn : ns.length ≤ 10) (hi : ∀ j,j < ns.length → I64 (ns.getD j 0)) :
  Calls Tryz.prog 26 #[.pointer (some ⟨P,0,none⟩),.string ⟨wd.toArray⟩,.slice (some ⟨w.heap.size,0,none⟩) ns.length ns.length] (w.alloc (.cells (ns.map (Value.int .i64)).toArray 3)) fun e w' => e = .returned (.tuple #[]) ∧ PenAt w' B P (l ++ lineT wd ns) false ∧ Wr B P w w' := by
 have hb := below1 w (.cells (ns.map (Value.int .i64)).toArray 3)
 have hP := h.box.2.1
 refine (line_pen B P l wd ns w.heap.size ns.length _ _ (hT.below (hb.mono hB)) (h.below hb) hlen hwd (Nat.le_trans hB hb.size) (heap_alloc_new w _) (fun j hj => ?_) (by omega) hn hi).mono ?_
 ·simp [List.getD_eq_getElem?_getD,hj]
 ·rintro e w' ⟨rfl,h1,h2⟩
  exact ⟨rfl,h1,(Wr.of_below hB hb).trans h2⟩
theorem num1 (B P : Nat) (l : List UInt8) (z : Int) (w : World) (hT : Tabs w B) (h : PenAt w B P l true) (hlen : l.length ≤ 20000000000000) (hB : B ≤ w.heap.size) (hz : I64 z) :
  Calls Tryz.prog 43 #[.pointer (some ⟨P,0,none⟩),.slice (some ⟨w.heap.size,0,none⟩) 1 1] (w.alloc (.cells #[.int .i64 z] 3)) fun e w' => e = .returned (.tuple #[]) ∧ PenAt w' B P (l ++ ([32] ++ Lib.itoa z)) true ∧ Wr B P w w' :=
 numsNp B P l [z] w hT h hlen hB (by simp) (fun j hj => by
  have : j = 0 := by simpa using hj
  subst this
  exact hz)
theorem num3 (B P : Nat) (l : List UInt8) (x y z : Int) (w : World) (hT : Tabs w B) (h : PenAt w B P l true) (hlen : l.length ≤ 20000000000000) (hB : B ≤ w.heap.size) (hx : I64 x) (hy : I64 y) (hz : I64 z) :
  Calls Tryz.prog 43 #[.pointer (some ⟨P,0,none⟩),.slice (some ⟨w.heap.size,0,none⟩) 3 3] (w.alloc (.cells #[.int .i64 x,.int .i64 y,.int .i64 z] 3)) fun e w' => e = .returned (.tuple #[]) ∧ PenAt w' B P (l ++ numT [x,y,z] 3) true ∧ Wr B P w w' :=
 numsNp B P l [x,y,z] w hT h hlen hB (by simp) (fun j hj => by
  have : j = 0 ∨ j = 1 ∨ j = 2 := by simp at hj; omega
  rcases this with rfl | rfl | rfl
  ·exact hx
  ·exact hy
  ·exact hz)
set_option maxHeartbeats 4000000 in
theorem variable_pen (B P : Nat) (l : List UInt8) (k v : Int) (w : World) (hk : 1 ≤ k ∧ k ≤ 7) (hv : I64 v) (hT : Tabs w B) (h : PenAt w B P l false) (hlen : l.length ≤ 10000000000000) (hB : B ≤ w.heap.size) :
  Calls Tryz.prog 45 #[.pointer (some ⟨P,0,none⟩),.int .i64 k,.int .i64 v] w fun e w' => e = .returned (.tuple #[]) ∧ PenAt w' B P (l ++ varT k v) false ∧ Wr B P w w' := by
 have hit : ItOK 19 k := ⟨by omega,by omega,⟨by omega,by omega⟩,fun _ => hk,by omega⟩
 have hkl := kindName_l k
 have hil := itoa_l hv
 obtain ⟨l1,hl1⟩ : ∃ x,x = l ++ gap false ++ [118,97,114] := ⟨_,rfl⟩
 have e1 : l1.length ≤ l.length + 3 := by rw [hl1]; simp [gap]
 obtain ⟨l2,hl2⟩ : ∃ x,x = l1 ++ gap true ++ wordT 19 k := ⟨_,rfl⟩
 have e2 : l2.length ≤ l.length + 7 := by rw [hl2]; simp [gap,wordT]; omega
 obtain ⟨l3,hl3⟩ : ∃ x,x = l2 ++ ([32] ++ Lib.itoa v) := ⟨_,rfl⟩
 have e3 : l3.length ≤ l.length + 29 := by rw [hl3]; simp; omega
 have C1 := hid (word_pen B P l [118,97,114] false w h (by simp; omega) hB)
 have C2 := hid (fun (w1 : World) (k1 : Wr B P w w1) => wordOf_any 19 k hit w1 (hT.below k1.bel).pow (hT.below k1.bel).it' (fun w' hb' => pow_below (hT.below k1.bel).pow hb' (by have := hT.lt; have := k1.size; omega)))
 have C3 := hid (fun (w1 : World) (k1 : Wr B P w w1) (h1 : PenAt w1 B P l1 true) => word_pen B P l1 (wordT 19 k) true w1 h1 (by simp [wordT]; omega) (Nat.le_trans hB k1.size))
 have C4 := hid (fun (w1 : World) (k1 : Wr B P w w1) (h1 : PenAt w1 B P l2 true) => num1 B P l2 v w1 (hT.below k1.bel) h1 (by omega) (Nat.le_trans hB k1.size) hv)
 have C5 := hid (fun (w1 : World) (k1 : Wr B P w w1) (h1 : PenAt w1 B P l3 true) => end_pen B P l3 true w1 h1 (by omega) (Nat.le_trans hB k1.size))
 rw [← hl1] at C1
 rw [← hl2] at C3
 rw [← hl3] at C4
 have HB := hid hB
 have EE : Hid (l3 ++ [10] = l ++ varT k v) := hid (by rw [hl3,hl2,hl1]; simp [gap,wordT,varT])
 clear hit hkl hil hl1 hl2 hl3 e1 e2 e3 hT h hlen hB hk hv
 go_enter Tryz.func45,Tryz.ntmps45
 go_wp2_with (first
  | (go_at_call 42; with_reducible refine C1.out.mono ?_; rintro e w1 ⟨rfl,h1,k1⟩; have H1 := hid h1; have K1 := hid k1; clear h1 k1)
  | (go_at_call 79; refine (C2.out w1 K1.out).mono ?_; rintro e w2 ⟨rfl,hb2⟩; have H2 := hid (H1.out.below hb2); have K2 := hid (K1.out.of HB.out hb2); clear hb2)
  | (go_at_call 42; refine (C3.out w2 K2.out H2.out).mono ?_; rintro e w3 ⟨rfl,h3,k3⟩; have H3 := hid h3; have K3 := hid (K2.out.trans k3); clear h3 k3)
  | (go_at_call 43; refine (C4.out w3 K3.out H3.out).mono ?_; rintro e w4 ⟨rfl,h4,k4⟩; have H4 := hid h4; have K4 := hid (K3.out.trans k4); clear h4 k4)
  | (go_at_call 44; refine (C5.out w4 K4.out H4.out).mono ?_; rintro e w5 ⟨rfl,h5,k5⟩; have H5 := hid h5; have K5 := hid (K4.out.trans k5); clear h5 k5))
 go_end0
 exact ⟨rfl,by rw [← EE.out]; exact H5.out,K5.out⟩
end Go.Proofs.YtkdgkomnbjepdaaGreatDoor
namespace Go.Proofs.YtkdgkomnbjepdaaGreatDoor
open Go.RowKit Go.Sort
set_option linter.unusedVariables false
attribute [local go_sem ↓] Go.wp_at_zero Go.wp_at_succ
theorem Wr.box {B P : Nat} {w w' : World} (h : Wr B P w w') {b : Nat} {cs : Array Value} {t : TypeId} (hb : w.heap[b]? = some (.cells cs t (0,0))) (hP : b ≠ P) (ht : t ≠ 5) : w'.heap[b]? = some (.cells cs t (0,0)) := h.fr b cs t _ hb hP ht
set_option maxRecDepth 100000 in
set_option maxHeartbeats 1600000 in
theorem stm_pen (w0 : World) (P : Nat) (l : List UInt8) (kd sa sb : Int) (co : Option Addr) (cn cc : Nat) (sc : List (Int × Int)) (w : World) (hok : StmOK ⟨kd,sa,sb,sc⟩) (hs : ItemsOf w0 co cn sc) (hw : Below w0.heap.size w0 w) (hT : Tabs w w0.heap.size) (h : PenAt w w0.heap.size P l true) (hlen : l.length ≤ 15000000000000) :
  Calls Tryz.prog 80 #[.pointer (some ⟨P,0,none⟩),.agg #[.int .i64 kd,.int .i64 sa,.int .i64 sb,.slice co cn cc]] w fun e w' => e = .returned (.tuple #[]) ∧ PenAt w' w0.heap.size P (l ++ ([32] ++ stmT ⟨kd,sa,sb,sc⟩)) true ∧ Wr w0.heap.size P w w' := by
 obtain ⟨lo,hi,ha,hb,hcd⟩ := hok
 dsimp only at lo hi ha hb hcd
 obtain ⟨hBP,hPl,_,_⟩ := h.box
 have hB := hw.size
 have hnl := stmName_l kd
 have la := itoa_l ha
 have lb := itoa_l hb
 have hcl : sc.length = cn := hs.1
 obtain ⟨Z,hZ⟩ : ∃ Z,Z = w.alloc (.cells #[.int .i64 kd,.int .i64 sa,.int .i64 sb,.slice co cn cc] 105) := ⟨_,rfl⟩
 have BZ := hid (show Below w.heap.size w Z by rw [hZ]; exact below1 _ _)
 have XZ := hid (heap_alloc_new w (.cells #[.int .i64 kd,.int .i64 sa,.int .i64 sb,.slice co cn cc] 105))
 rw [← hZ] at XZ
 obtain ⟨ga,hga⟩ : ∃ g,g = giveA kd := ⟨_,rfl⟩
 obtain ⟨gb,hgb⟩ : ∃ g,g = giveB kd := ⟨_,rfl⟩
 have CF := hid (formOfKind_any kd (w.alloc (.cells #[.int .i64 kd,.int .i64 sa,.int .i64 sb,.slice co cn cc] 105)) lo hi (by rw [← hZ]; exact (hT.below (BZ.out.mono hB)).fm'))
 rw [← hga,← hgb] at CF
 obtain ⟨nm,hnm⟩ : ∃ x,x = stmName kd := ⟨_,rfl⟩
 rw [← hnm] at CF hnl
 obtain ⟨l1,hl1⟩ : ∃ x,x = l ++ gap true ++ nm := ⟨_,rfl⟩
 have e1 : l1.length ≤ l.length + 8 := by rw [hl1]; simp [gap]; omega
 obtain ⟨l2,hl2⟩ : ∃ x,x = l1 ++ fieldT ga sa := ⟨_,rfl⟩
 have e2 : l2.length ≤ l.length + 30 := by have := fieldT_l (b := ga) ha; rw [hl2]; simp; omega
 obtain ⟨l3,hl3⟩ : ∃ x,x = l2 ++ fieldT gb sb := ⟨_,rfl⟩
 have e3 : l3.length ≤ l.length + 52 := by have := fieldT_l (b := gb) hb; rw [hl3]; simp; omega
 have EE : Hid (l3 ++ codeT sc cn = l ++ ([32] ++ stmT ⟨kd,sa,sb,sc⟩)) := hid (by rw [hl3,hl2,hl1,hnm,hga,hgb]; simp [gap,stmT,hcl])
 have C1 := hid (fun (w1 : World) (k1 : Wr w0.heap.size P w w1) (h1 : PenAt w1 w0.heap.size P l true) => word_pen w0.heap.size P l nm true w1 h1 (by omega) (Nat.le_trans hB k1.size))
 have CA := hid (fun (w1 : World) (k1 : Wr w0.heap.size P w w1) (h1 : PenAt w1 w0.heap.size P l1 true) => num1 w0.heap.size P l1 sa w1 (hT.below k1.bel) h1 (by omega) (Nat.le_trans hB k1.size) ha)
 have CB := hid (fun (w1 : World) (k1 : Wr w0.heap.size P w w1) (h1 : PenAt w1 w0.heap.size P l2 true) => num1 w0.heap.size P l2 sb w1 (hT.below k1.bel) h1 (by omega) (Nat.le_trans hB k1.size) hb)
 have CC := hid (fun (w1 : World) (k1 : Wr w0.heap.size P w w1) (h1 : PenAt w1 w0.heap.size P l3 true) => code_pen w0 P l3 co cn cc sc w1 hcd hs (hw.trans k1.bel) (hT.below k1.bel) h1 (by omega))
 rw [← hl1] at C1
 have HB := hid hB
 have HPl := hid hPl
 have H := hid h
 have HZ := hid hZ
 have KZ : Hid (Wr w0.heap.size P w Z) := hid (Wr.of_below hB BZ.out)
 have PX : Hid (w.heap.size ≠ P) := hid (by omega)
 have HL2 := hid hl2
 have HL3 := hid hl3
 clear hnm hga hgb hl1 hl2 hl3 e1 e2 e3 hT h hlen hB hw hs hcd ha hb la lb hnl lo hi hcl hZ hPl
 cases ga with
 | true =>
  cases gb with
  | true =>
   go_enter Tryz.func80,Tryz.ntmps80
   go_wp2_with (first
    | (go_at_call 111; refine CF.out.mono ?_; rintro e w1 ⟨⟨fc,rfl⟩,hb1⟩; have B1 : Hid (Below Z.heap.size Z w1) := hid (by rw [HZ.out]; exact hb1); have K1 := hid (KZ.out.of HB.out B1.out); have X1 := hid (block_below XZ.out B1.out); have hF := below1 w1 (.cells #[.int .i64 kd,.string ⟨nm.toArray⟩,.bool true,.bool true,.bool fc] 214); have K2 := hid (K1.out.of HB.out hF); have X2 := hid (block_below X1.out hF); have F2 := hid (heap_alloc_new w1 (.cells #[.int .i64 kd,.string ⟨nm.toArray⟩,.bool true,.bool true,.bool fc] 214)); have PF : Hid (w1.heap.size ≠ P) := hid (by have := HPl.out; have := K1.out.size; omega); have H2 := hid ((H.out.below BZ.out).below B1.out |>.below hF); clear hb1 hF)
    | (go_at_call 42; refine (C1.out _ K2.out H2.out).mono ?_; rintro e w3 ⟨rfl,h3,k3⟩; have H3 := hid h3; have K3 := hid (K2.out.trans k3); obtain ⟨x0,x1,x2,x3⟩ := four_cells (k3.box X2.out PX.out (by decide)); obtain ⟨f0,f1,f2,f3,f4⟩ := five_cc (k3.box F2.out PF.out (by decide)); have X3 := hid (k3.box X2.out PX.out (by decide)); have F3 := hid (k3.box F2.out PF.out (by decide)); clear h3 k3)
    | (go_at_call 43; with_reducible refine (CA.out w3 K3.out H3.out).mono ?_; rintro e w4 ⟨rfl,h4,k4⟩; have H4 := hid (show PenAt w4 w0.heap.size P l2 true by rw [HL2.out]; simpa [fieldT] using h4); have K4 := hid (K3.out.trans k4); obtain ⟨x0,x1,x2,x3⟩ := four_cells (k4.box X3.out PX.out (by decide)); obtain ⟨f0,f1,f2,f3,f4⟩ := five_cc (k4.box F3.out PF.out (by decide)); have X4 := hid (k4.box X3.out PX.out (by decide)); have F4 := hid (k4.box F3.out PF.out (by decide)); clear h4 k4)
    | (go_at_call 43; with_reducible refine (CB.out w4 K4.out H4.out).mono ?_; rintro e w5 ⟨rfl,h5,k5⟩; have H5 := hid (show PenAt w5 w0.heap.size P l3 true by rw [HL3.out]; simpa [fieldT] using h5); have K5 := hid (K4.out.trans k5); obtain ⟨x0,x1,x2,x3⟩ := four_cells (k5.box X4.out PX.out (by decide)); clear h5 k5)
    | (go_at_call 81; refine (CC.out w5 K5.out H5.out).mono ?_; rintro e w9 ⟨rfl,h9,k9⟩; have H9 := hid h9; have K9 := hid (K5.out.trans k9); clear h9 k9))
   go_end0
   exact ⟨rfl,by have h := H9.out; rw [EE.out] at h; exact h,K9.out⟩
  | false =>
   go_enter Tryz.func80,Tryz.ntmps80
   go_wp2_with (first
    | (go_at_call 111; refine CF.out.mono ?_; rintro e w1 ⟨⟨fc,rfl⟩,hb1⟩; have B1 : Hid (Below Z.heap.size Z w1) := hid (by rw [HZ.out]; exact hb1); have K1 := hid (KZ.out.of HB.out B1.out); have X1 := hid (block_below XZ.out B1.out); have hF := below1 w1 (.cells #[.int .i64 kd,.string ⟨nm.toArray⟩,.bool true,.bool false,.bool fc] 214); have K2 := hid (K1.out.of HB.out hF); have X2 := hid (block_below X1.out hF); have F2 := hid (heap_alloc_new w1 (.cells #[.int .i64 kd,.string ⟨nm.toArray⟩,.bool true,.bool false,.bool fc] 214)); have PF : Hid (w1.heap.size ≠ P) := hid (by have := HPl.out; have := K1.out.size; omega); have H2 := hid ((H.out.below BZ.out).below B1.out |>.below hF); clear hb1 hF)
    | (go_at_call 42; refine (C1.out _ K2.out H2.out).mono ?_; rintro e w3 ⟨rfl,h3,k3⟩; have H3 := hid h3; have K3 := hid (K2.out.trans k3); obtain ⟨x0,x1,x2,x3⟩ := four_cells (k3.box X2.out PX.out (by decide)); obtain ⟨f0,f1,f2,f3,f4⟩ := five_cc (k3.box F2.out PF.out (by decide)); have X3 := hid (k3.box X2.out PX.out (by decide)); have F3 := hid (k3.box F2.out PF.out (by decide)); clear h3 k3)
    | (go_at_call 43; with_reducible refine (CA.out w3 K3.out H3.out).mono ?_; rintro e w4 ⟨rfl,h4,k4⟩; have H4 := hid (show PenAt w4 w0.heap.size P l2 true by rw [HL2.out]; simpa [fieldT] using h4); have K4 := hid (K3.out.trans k4); obtain ⟨x0,x1,x2,x3⟩ := four_cells (k4.box X3.out PX.out (by decide)); obtain ⟨f0,f1,f2,f3,f4⟩ := five_cc (k4.box F3.out PF.out (by decide)); have X4 := hid (k4.box X3.out PX.out (by decide)); have F4 := hid (k4.box F3.out PF.out (by decide)); clear h4 k4)
    | (go_at_call 81; refine (CC.out w4 K4.out (show PenAt w4 w0.heap.size P l3 true by rw [HL3.out]; simpa [fieldT] using H4.out)).mono ?_; rintro e w9 ⟨rfl,h9,k9⟩; have H9 := hid h9; have K9 := hid (K4.out.trans k9); clear h9 k9))
   go_end0
   exact ⟨rfl,by have h := H9.out; rw [EE.out] at h; exact h,K9.out⟩
 | false =>
  cases gb with
  | true =>
   go_enter Tryz.func80,Tryz.ntmps80
   go_wp2_with (first
    | (go_at_call 111; refine CF.out.mono ?_; rintro e w1 ⟨⟨fc,rfl⟩,hb1⟩; have B1 : Hid (Below Z.heap.size Z w1) := hid (by rw [HZ.out]; exact hb1); have K1 := hid (KZ.out.of HB.out B1.out); have X1 := hid (block_below XZ.out B1.out); have hF := below1 w1 (.cells #[.int .i64 kd,.string ⟨nm.toArray⟩,.bool false,.bool true,.bool fc] 214); have K2 := hid (K1.out.of HB.out hF); have X2 := hid (block_below X1.out hF); have F2 := hid (heap_alloc_new w1 (.cells #[.int .i64 kd,.string ⟨nm.toArray⟩,.bool false,.bool true,.bool fc] 214)); have PF : Hid (w1.heap.size ≠ P) := hid (by have := HPl.out; have := K1.out.size; omega); have H2 := hid ((H.out.below BZ.out).below B1.out |>.below hF); clear hb1 hF)
    | (go_at_call 42; refine (C1.out _ K2.out H2.out).mono ?_; rintro e w3 ⟨rfl,h3,k3⟩; have H3 := hid h3; have K3 := hid (K2.out.trans k3); obtain ⟨x0,x1,x2,x3⟩ := four_cells (k3.box X2.out PX.out (by decide)); obtain ⟨f0,f1,f2,f3,f4⟩ := five_cc (k3.box F2.out PF.out (by decide)); have X3 := hid (k3.box X2.out PX.out (by decide)); have F3 := hid (k3.box F2.out PF.out (by decide)); clear h3 k3)
    | (go_at_call 43; with_reducible refine (CB.out w3 K3.out (show PenAt w3 w0.heap.size P l2 true by rw [HL2.out]; simpa [fieldT] using H3.out)).mono ?_; rintro e w4 ⟨rfl,h4,k4⟩; have H4 := hid (show PenAt w4 w0.heap.size P l3 true by rw [HL3.out]; simpa [fieldT] using h4); have K4 := hid (K3.out.trans k4); obtain ⟨x0,x1,x2,x3⟩ := four_cells (k4.box X3.out PX.out (by decide)); clear h4 k4)
    | (go_at_call 81; refine (CC.out w4 K4.out H4.out).mono ?_; rintro e w9 ⟨rfl,h9,k9⟩; have H9 := hid h9; have K9 := hid (K4.out.trans k9); clear h9 k9))
   go_end0
   exact ⟨rfl,by have h := H9.out; rw [EE.out] at h; exact h,K9.out⟩
  | false =>
   go_enter Tryz.func80,Tryz.ntmps80
   go_wp2_with (first
    | (go_at_call 111; refine CF.out.mono ?_; rintro e w1 ⟨⟨fc,rfl⟩,hb1⟩; have B1 : Hid (Below Z.heap.size Z w1) := hid (by rw [HZ.out]; exact hb1); have K1 := hid (KZ.out.of HB.out B1.out); have X1 := hid (block_below XZ.out B1.out); have hF := below1 w1 (.cells #[.int .i64 kd,.string ⟨nm.toArray⟩,.bool false,.bool false,.bool fc] 214); have K2 := hid (K1.out.of HB.out hF); have X2 := hid (block_below X1.out hF); have F2 := hid (heap_alloc_new w1 (.cells #[.int .i64 kd,.string ⟨nm.toArray⟩,.bool false,.bool false,.bool fc] 214)); have PF : Hid (w1.heap.size ≠ P) := hid (by have := HPl.out; have := K1.out.size; omega); have H2 := hid ((H.out.below BZ.out).below B1.out |>.below hF); clear hb1 hF)
    | (go_at_call 42; refine (C1.out _ K2.out H2.out).mono ?_; rintro e w3 ⟨rfl,h3,k3⟩; have H3 := hid h3; have K3 := hid (K2.out.trans k3); obtain ⟨x0,x1,x2,x3⟩ := four_cells (k3.box X2.out PX.out (by decide)); obtain ⟨f0,f1,f2,f3,f4⟩ := five_cc (k3.box F2.out PF.out (by decide)); have X3 := hid (k3.box X2.out PX.out (by decide)); have F3 := hid (k3.box F2.out PF.out (by decide)); clear h3 k3)
    | (go_at_call 81; refine (CC.out w3 K3.out (show PenAt w3 w0.heap.size P l3 true by rw [HL3.out,HL2.out]; simpa [fieldT] using H3.out)).mono ?_; rintro e w9 ⟨rfl,h9,k9⟩; have H9 := hid h9; have K9 := hid (K3.out.trans k9); clear h9 k9))
   go_end0
   exact ⟨rfl,by have h := H9.out; rw [EE.out] at h; exact h,K9.out⟩
end Go.Proofs.YtkdgkomnbjepdaaGreatDoor

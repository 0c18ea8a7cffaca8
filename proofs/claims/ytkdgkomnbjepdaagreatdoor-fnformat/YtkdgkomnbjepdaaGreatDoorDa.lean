import Derived.Test.YtkdgkomnbjepdaaGreatDoorWb
import Derived.Deep.LoopGhost
namespace Go.Proofs.YtkdgkomnbjepdaaGreatDoor
open Go.RowKit Go.Sort
set_option linter.unusedVariables false
attribute [local go_sem ↓] Go.wp_at_zero Go.wp_at_succ
section
variable {w : World} {B F : Nat} {fs : List (List UInt8)} {bad : Bool} {L : List Rw}
theorem St.next (h : St w B F fs bad L) : Calls Tryz.prog 115 #[.pointer (some ⟨F,0,none⟩)] w fun e w' => e = .returned (.string ⟨(fs.getD 0 []).toArray⟩) ∧ St w' B F fs.tail (bad || fs.isEmpty) L ∧ Bm B w w' := by
 refine (next_any F fs bad w h.vars.v h.fat).mono ?_
 rintro e w' ⟨h1,h2,h3⟩
 exact ⟨h1,h.rd h2 h3 h.nums,h.brd h3⟩
theorem St.need (h : St w B F fs bad L) (b : Bool) (te : TypeId) (pe : Value) : Calls Tryz.prog 84 #[.pointer (some ⟨F,0,none⟩),.bool b,.iface te pe] w fun e w' => e = .returned (.tuple #[]) ∧ St w' B F fs (bad || !b) L ∧ Bm B w w' := by
 refine (need_any F fs bad b te pe w h.fat).mono ?_
 rintro e w' ⟨h1,h2,h3⟩
 exact ⟨h1,h.rd h2 h3 h.len,h.brd h3⟩
theorem St.fail (h : St w B F fs bad L) (te : TypeId) (pe : Value) : Calls Tryz.prog 113 #[.pointer (some ⟨F,0,none⟩),.iface te pe] w fun e w' => e = .returned (.tuple #[]) ∧ St w' B F fs true L ∧ Bm B w w' := by
 refine (fail_any F fs bad te pe w h.fat).mono ?_
 rintro e w' ⟨h1,h2,h3⟩
 exact ⟨h1,h.rd h2 h3 h.len,h.brd h3⟩
theorem St.item (h : St w B F fs bad L) (s : ByteArray) (hs : s.size ≤ 1048576) : Calls Tryz.prog 116 #[.string s] w fun e w' => e = .returned (.tuple #[.agg #[.int .i64 (rdI (bl s)).1,.int .i64 (rdI (bl s)).2],.bool (okI (bl s))]) ∧ St w' B F fs bad L ∧ Bm B w w' := by
 refine (itemOf_any s hs w h.vars (Nat.lt_of_lt_of_le h.lo h.hi)).mono ?_
 rintro e w' ⟨h1,h2⟩
 exact ⟨h1,h.new h2,h.bnew h2⟩
theorem St.form (h : St w B F fs bad L) (s : ByteArray) : Calls Tryz.prog 117 #[.string s] w fun e w' => (∃ nm : ByteArray,e = .returned (.tuple #[.agg #[.int .i64 (kindO (bl s)),.string nm,.bool (giveA (kindO (bl s))),.bool (giveB (kindO (bl s))),.bool (formC (kindO (bl s)))],.bool (decide (0 ≤ placeN stmsL (bl s) 0))])) ∧ St w' B F fs bad L ∧ Bm B w w' := by
 refine (formOfWord_any s w h.vars).mono ?_
 rintro e w' ⟨h1,h2⟩
 exact ⟨h1,h.new h2,h.bnew h2⟩
theorem St.tail {r : Rw} (h : St w B F fs bad (r :: L)) : St w B F fs bad L := ⟨h.vars,h.flat.tail,h.fat,h.nof.tail,h.lo,h.hi,h.hF,h.len⟩
theorem St.head {r : Rw} (h : St w B F fs bad (r :: L)) : r.own w B := h.flat.head
theorem St.fieldS (h : St w B F fs bad L) : (⟨(fs.getD 0 []).toArray⟩ : ByteArray).size ≤ 1048576 := by
 have : (⟨(fs.getD 0 []).toArray⟩ : ByteArray).size = (fs.getD 0 []).length := by show ((fs.getD 0 []).toArray).size = _; simp
 rw [this]
 cases fs with
 | nil => simp
 | cons x r => simpa using h.len x (by simp)
theorem St.errF (h : St w B F fs bad L) : ∃ te pe,w.cell? ⟨7,0,none⟩ = some (.iface te pe) := h.vars.v.field
theorem St.errP (h : St w B F fs bad L) : ∃ te pe,w.cell? ⟨4,0,none⟩ = some (.iface te pe) := h.vars.v.place
theorem St.bad' {bad' : Bool} (h : St w B F fs bad L) (e : bad = bad') : St w B F fs bad' L := e ▸ h
end
theorem okI_nil : okI [] = false := by
 unfold okI
 rw [if_neg (by decide)]
 simp [num_nil]
def okK (fs : List (List UInt8)) : Bool := okI (fs.getD 0 []) && decide ((rdI (fs.getD 0 [])).1 = 19)
theorem bad_empty {fs : List (List UInt8)} {bad b : Bool} (h : fs.isEmpty = true → b = false) : ((bad || fs.isEmpty) || !b) = (bad || !b) := by
 cases hx : fs.isEmpty with
 | false => simp
 | true => rw [h hx]; simp
theorem okK_nil {fs : List (List UInt8)} (h : fs.isEmpty = true) : okK fs = false := by
 rw [List.isEmpty_iff] at h
 subst h
 simp [okK,okI_nil]
set_option maxRecDepth 100000 in
set_option maxHeartbeats 1600000 in
theorem St.kind {w : World} {B F : Nat} {fs : List (List UInt8)} {bad : Bool} {L : List Rw} (h : St w B F fs bad L) : Calls Tryz.prog 88 #[.pointer (some ⟨F,0,none⟩)] w fun e w' => e = .returned (.int .i64 (rdI (fs.getD 0 [])).2) ∧ St w' B F fs.tail (bad || !okK fs) L ∧ Bm B w w' := by
 have C := hid h.next
 have FS := hid h.fieldS
 have OE := hid (@bad_empty fs bad (okK fs) okK_nil)
 obtain ⟨s,hs⟩ : ∃ s : ByteArray,s = ⟨(fs.getD 0 []).toArray⟩ := ⟨_,rfl⟩
 rw [← hs] at C FS
 have hbs : fs.getD 0 [] = bl s := ba_bl.1 hs.symm
 have OK : Hid (okK fs = (okI (bl s) && decide ((rdI (bl s)).1 = 19))) := hid (by unfold okK; rw [hbs])
 rw [hbs]
 obtain ⟨x,hx⟩ : ∃ x,x = (rdI (bl s)).1 := ⟨_,rfl⟩
 obtain ⟨y,hy⟩ : ∃ y,y = (rdI (bl s)).2 := ⟨_,rfl⟩
 obtain ⟨ok,hok⟩ : ∃ b,b = okI (bl s) := ⟨_,rfl⟩
 have CI : Hid (∀ (W : World) (fs' : List (List UInt8)) (bd : Bool),St W B F fs' bd L → Calls Tryz.prog 116 #[.string s] W fun e w' => e = .returned (.tuple #[.agg #[.int .i64 x,.int .i64 y],.bool ok]) ∧ St w' B F fs' bd L ∧ Bm B W w') := hid (fun W fs' bd hW => by rw [hx,hy,hok]; exact hW.item s FS.out)
 rw [← hx,← hok] at OK
 rw [← hy]
 clear hx hy hok hs hbs h
 have NE : Hid (∀ (W : World) (M : List Rw) (bd b : Bool) (te : TypeId) (pe : Value),St W B F fs.tail bd M → Calls Tryz.prog 84 #[.pointer (some ⟨F,0,none⟩),.bool b,.iface te pe] W fun e w' => e = .returned (.tuple #[]) ∧ St w' B F fs.tail (bd || !b) M ∧ Bm B W w') := hid (fun W M bd b te pe hW => hW.need b te pe)
 obtain ⟨fe,hfe⟩ : ∃ b,b = (bad || fs.isEmpty) := ⟨_,rfl⟩
 rw [← hfe] at C OE
 clear hfe
 obtain ⟨kb,hkb⟩ : ∃ b,b = okK fs := ⟨_,rfl⟩
 rw [← hkb] at OE OK ⊢
 have KO : Hid ((fe || !kb) = (bad || !kb)) := hid OE.out
 clear OE hkb
 rw [← KO.out]
 cases ok with
 | true =>
  obtain ⟨d,hd⟩ : ∃ d : Bool,d = decide (x = 19) := ⟨_,rfl⟩
  have ek : kb = d := by rw [hd]; simpa using OK.out
  subst ek
  have hd' : (x == 19) = kb := by rw [hd]; rfl
  clear OK hd KO
  go_enter Tryz.func88,Tryz.ntmps88
  go_wp2_with (first
   | (go_at_call 115; with_reducible refine C.out.mono ?_; rintro e w1 ⟨rfl,h1,b1⟩; have H1 := hid h1; have B1 := hid b1; clear h1 b1)
   | (go_at_call 116; with_reducible refine (CI.out _ _ _ H1.out).mono ?_; rintro e w2 ⟨rfl,h2,b2⟩; have B2 := hid b2; have hbx := (h2.box 107 [.int .i64 x,.int .i64 y] (by decide) (by decide)); have HX := hid hbx; obtain ⟨te,pe,hfe⟩ := hbx.errF; obtain ⟨i0,i1,i2,i3⟩ := two_cc (box_blk hbx.head); have il := lt_of_block (box_blk hbx.head); have fl := Lib.lt_of_cell hfe; have B3 := hid (h2.bnew (below1 w2 (.cells #[.int .i64 x,.int .i64 y] 107))); clear h2 b2 hbx)
   | (go_at_call 84; with_reducible refine (NE.out _ _ _ _ te pe HX.out).mono ?_; rintro e w3 ⟨rfl,h3,b3⟩; have H3 := hid h3; have B4 := hid b3; obtain ⟨j0,j1,j2,j3⟩ := two_cc (box_blk h3.head); have jl := lt_of_block (box_blk h3.head); clear h3 b3))
  go_ret
  exact ⟨rfl,H3.out.tail,((B1.out.trans B2.out).trans B3.out).trans B4.out⟩
 | false =>
  have ek : kb = false := by simpa using OK.out
  subst ek
  clear OK KO
  go_enter Tryz.func88,Tryz.ntmps88
  go_wp2_with (first
   | (go_at_call 115; with_reducible refine C.out.mono ?_; rintro e w1 ⟨rfl,h1,b1⟩; have H1 := hid h1; have B1 := hid b1; clear h1 b1)
   | (go_at_call 116; with_reducible refine (CI.out _ _ _ H1.out).mono ?_; rintro e w2 ⟨rfl,h2,b2⟩; have B2 := hid b2; have hbx := (h2.box 107 [.int .i64 x,.int .i64 y] (by decide) (by decide)); have HX := hid hbx; obtain ⟨te,pe,hfe⟩ := hbx.errF; obtain ⟨i0,i1,i2,i3⟩ := two_cc (box_blk hbx.head); have il := lt_of_block (box_blk hbx.head); have fl := Lib.lt_of_cell hfe; have B3 := hid (h2.bnew (below1 w2 (.cells #[.int .i64 x,.int .i64 y] 107))); clear h2 b2 hbx)
   | (go_at_call 84; with_reducible refine (NE.out _ _ _ _ te pe HX.out).mono ?_; rintro e w3 ⟨rfl,h3,b3⟩; have H3 := hid h3; have B4 := hid b3; obtain ⟨j0,j1,j2,j3⟩ := two_cc (box_blk h3.head); have jl := lt_of_block (box_blk h3.head); clear h3 b3))
  go_ret
  exact ⟨rfl,H3.out.tail,((B1.out.trans B2.out).trans B3.out).trans B4.out⟩
end Go.Proofs.YtkdgkomnbjepdaaGreatDoor
namespace Go.Proofs.YtkdgkomnbjepdaaGreatDoor
open Go.RowKit Go.Sort
set_option linter.unusedVariables false
attribute [local go_sem ↓] Go.wp_at_zero Go.wp_at_succ
theorem St.codeNew {w : World} {B F : Nat} {fs : List (List UInt8)} {bad : Bool} {L : List Rw} (h : St w B F fs bad L) : St (w.alloc (.cells #[] 107)) B F fs bad ((CdG.mk (.slice (some ⟨w.heap.size,0,none⟩) 0 0) []).row :: L) := by
 have h1 := h.new (below1 w (.cells #[] 107))
 refine ⟨h1.vars,h.flat.fresh h.hi (below1 _ _) (World.ownsRow_lit w #[] 0 (Nat.le_refl _) (by decide) rfl),h1.fat,h.nof.cons (show 107 ≠ 9 by decide) (show 107 ≠ 168 by decide),h1.lo,h1.hi,h1.hF,h1.len⟩
theorem St.codeApp {w w' : World} {B F : Nat} {fs : List (List UInt8)} {bad : Bool} {L : List Rw} {v : Value} {its : List (Int × Int)} {g cap : Nat} {x y : Int} (h : St w B F fs bad ((CdG.mk v its).row :: L)) (hg : w.grownBy w' v.ownBlock) (hn : w'.ownsRow B 107 2 (.slice (some ⟨g,0,none⟩) (its.length + 1) cap) (its.length + 1) (itC its ++ [.int .i64 x,.int .i64 y])) (hat : v.ownBlock = some g ∨ g = w.heap.size) : St w' B F fs bad ((CdG.mk (.slice (some ⟨g,0,none⟩) (its.length + 1) cap) (its ++ [(x,y)])).row :: L) := by
 have := h.app hg hn hat
 simpa [CdG.row,itC_append,itC] using this
set_option maxRecDepth 100000 in
set_option maxHeartbeats 3200000 in
theorem St.code {w : World} {B F : Nat} {fs : List (List UInt8)} {bad : Bool} {L : List Rw} (h : St w B F fs bad L) : Calls Tryz.prog 91 #[.pointer (some ⟨F,0,none⟩)] w fun e w' => ∃ ao n c,e = .returned (.slice ao n c) ∧ St w' B F [] (bad || !fs.all okI) ((CdG.mk (.slice ao n c) (fs.map rdI)).row :: L) ∧ Bm B w w' := by
 obtain ⟨i0,hi,hz0,hz1,hz2⟩ := info_parts Tryz.infoIt2
 have H0 := hid h.codeNew
 have B0 := hid (h.bnew (below1 w (.cells #[] 107)))
 have FL : fs.length ≤ 1048576 := by obtain ⟨ao,n,c,ev,_,h2,_,h4,_⟩ := h.fat; rw [h2.1]; exact h4.1
 have HH := hid h
 clear h
 go_enter Tryz.func91,Tryz.ntmps91
 go_wp2
 go_loopg [3] fs.length (fun m p wr => ∃ (k : Nat) (ao : Option Addr) (n c : Nat),m = fs.length - k ∧ k ≤ fs.length ∧ p = .slice ao n c ∧ Hid (St wr B F (fs.drop k) (bad || !(fs.take k).all okI) ((CdG.mk (.slice ao n c) ((fs.take k).map rdI)).row :: L)) ∧ Hid (Bm B w wr))
 case atStart => exact ⟨0,_,_,_,rfl,Nat.zero_le _,rfl,hid (by simpa using H0.out),B0⟩
 case round =>
  obtain ⟨k,ao,n,c,rfl,hk,rfl,hS,hB⟩ := hrel
  obtain ⟨fa,fn,fc,fev,f1,f2,f3,f4,f5⟩ := hS.out.fat
  obtain ⟨c0,c1,z0,z1⟩ := two_cc f1
  have fl := lt_of_block f1
  have hfn : fn = fs.length - k := by have := f2.1; rw [List.length_drop] at this; omega
  have HFN := hid hfn
  have F4 := hid f4
  clear f1 f2 f3 f5 f4 hfn
  by_cases hlt : k < fs.length
  ·have hfn0 : (0 : Int) < (fn : Int) := by have := HFN.out; omega
   have hfn1 : ¬ fn = 0 := by omega
   have C := hid hS.out.next
   have FS := hid hS.out.fieldS
   have NE0 : Hid ((fs.drop k).isEmpty = false) := hid (by cases hq : fs.drop k with | nil => exact absurd (congrArg List.length hq) (by simp; omega) | cons a r => rfl)
   have hd : (fs.drop k).getD 0 [] = fs.getD k [] := by simp [List.getD_eq_getElem?_getD]
   have TS : Hid (fs.take (k + 1) = fs.take k ++ [fs.getD k []]) := hid (take_snocF hlt)
   have DT : Hid ((fs.drop k).tail = fs.drop (k + 1)) := hid (by simp)
   rw [hd] at C FS
   rw [NE0.out,DT.out,Bool.or_false] at C
   obtain ⟨f,hf⟩ : ∃ f,f = fs.getD k [] := ⟨_,rfl⟩
   rw [← hf] at C FS TS
   obtain ⟨s,hs⟩ : ∃ s : ByteArray,s = ⟨f.toArray⟩ := ⟨_,rfl⟩
   rw [← hs] at C FS
   have hbs : f = bl s := ba_bl.1 hs.symm
   have CI := hid (fun (W : World) (fs' : List (List UInt8)) (bd : Bool) (M : List Rw) (hW : St W B F fs' bd M) => hW.item s FS.out)
   rw [← hbs] at CI
   obtain ⟨x,hx⟩ : ∃ x,x = (rdI f).1 := ⟨_,rfl⟩
   obtain ⟨y,hy⟩ : ∃ y,y = (rdI f).2 := ⟨_,rfl⟩
   obtain ⟨ok,hok⟩ : ∃ b,b = okI f := ⟨_,rfl⟩
   rw [← hx,← hy,← hok] at CI
   have RX : Hid (rdI f = (x,y)) := hid (by rw [hx,hy])
   have OKF := hid hok
   have IL : Hid ((fs.take k).length ≤ 1048576) := hid (by simp; omega)
   obtain ⟨its,hits⟩ : ∃ l,l = (fs.take k).map rdI := ⟨_,rfl⟩
   have HITS := hid hits
   have ITL : Hid (its.length ≤ 1048576) := hid (by rw [hits,List.length_map]; exact IL.out)
   rw [← hits] at C
   obtain ⟨bd,hbd⟩ : ∃ b,b = (bad || !(fs.take k).all okI) := ⟨_,rfl⟩
   have HBD := hid hbd
   rw [← hbd] at C
   obtain ⟨fr,hfr⟩ : ∃ b,b = fs.drop (k + 1) := ⟨_,rfl⟩
   have HFR := hid hfr
   rw [← hfr] at C
   have NE : Hid (∀ (W : World) (M : List Rw) (bd b : Bool) (te : TypeId) (pe : Value),St W B F fr bd M → Calls Tryz.prog 84 #[.pointer (some ⟨F,0,none⟩),.bool b,.iface te pe] W fun e w' => e = .returned (.tuple #[]) ∧ St w' B F fr (bd || !b) M ∧ Bm B W w') := hid (fun W M bd b te pe hW => hW.need b te pe)
   clear hs hbs hx hy hok hits hbd hd hf DT NE0 hfr FS hS
   go_upto_region 5 with (first
    | (go_at_call 115; with_reducible refine C.out.mono ?_; rintro e w1 ⟨rfl,h1,b1⟩; have H1 := hid h1; have B1 := hid b1; clear h1 b1)
    | (go_at_call 116; with_reducible refine (CI.out _ _ _ _ H1.out).mono ?_; rintro e w2 ⟨rfl,h2,b2⟩; have B2 := hid b2; have hbx := (h2.box 107 [.int .i64 x,.int .i64 y] (by decide) (by decide)); have HX := hid hbx; obtain ⟨te,pe,hfe⟩ := hbx.errF; have fl := Lib.lt_of_cell hfe; have B3 := hid (h2.bnew (below1 w2 (.cells #[.int .i64 x,.int .i64 y] 107))); clear h2 b2 hbx)
    | (go_at_call 84; with_reducible refine (NE.out _ _ _ _ te pe HX.out).mono ?_; rintro e w3 ⟨rfl,h3,b3⟩; have H3 := hid h3; have B4 := hid b3; obtain ⟨j0,j1,j2,j3⟩ := two_cc (box_blk h3.head); have jl := lt_of_block (box_blk h3.head); clear h3 b3))
   have H4 := hid (H3.out.tail.new (below1 w3 (.cells #[.int .i64 x,.int .i64 y] 107)))
   have B5 := hid (H3.out.bnew (below1 w3 (.cells #[.int .i64 x,.int .i64 y] 107)))
   have NW : Hid (∀ j u,[Value.int .i64 x,.int .i64 y][j]? = some u → (w3.alloc (.cells #[.int .i64 x,.int .i64 y] 107)).cell? ((⟨w3.heap.size,0,none⟩ : Addr).add j) = some u) := hid (World.news_of_block (cs := #[.int .i64 x,.int .i64 y]) (heap_alloc_new w3 _))
   have hn : n = its.length := row_len H4.out.head
   subst hn
   have il : its.length ≤ 1048576 := ITL.out
   clear c0 c1 z0 z1 C CI H1 HX NE hfe fl jl
   go_wp2_with (at_builtin; refine wpList_append_lies _ rfl (.tmp 23) (.tmp 25) 73 rfl B 107 i0 _ 2 16 Tryz.underlying73 hi hz0 hz1 hz2 rfl (by omega) (.slice ao its.length c) its.length (itC its) rfl H4.out.head ⟨w3.heap.size,0,none⟩ 1 1 [.int .i64 x,.int .i64 y] rfl rfl NW.out (one_it _ _) (by omega) (by unfold maxLen; omega) (by omega) H4.out.hi (w3.alloc (.cells #[.int .i64 x,.int .i64 y] 107)).heap.size rfl ?_; intro gg cap5 w5 hown hgrow hat hlt5; have H5 := hid (H4.out.codeApp hgrow hown hat); have B6 := hid (H4.out.bapp hgrow); clear hown hgrow hat hlt5)
   go_roundg (fs.length - (k + 1))
   case measure => omega
   case rel =>
    refine ⟨k + 1,_,_,_,rfl,hlt,rfl,hid ?_,hid (((((hB.out.trans B1.out).trans B2.out).trans B3.out).trans B4.out).trans (B5.out.trans B6.out))⟩
    have h5 := H5.out
    rw [HITS.out,HBD.out,HFR.out,OKF.out,← RX.out] at h5
    rw [TS.out]
    refine St.bad' (bad := (bad || !(fs.take k).all okI) || !okI f) ?_ ?_
    ·rw [List.map_append,HITS.out]
     exact h5
    ·simp [List.all_append,Bool.or_assoc]
  ·have ek : k = fs.length := by omega
   subst ek
   have e0 : fn = 0 := by have := HFN.out; omega
   subst e0
   go_wp2
   go_ret
   refine ⟨_,_,_,rfl,?_,hB.out⟩
   have := hS.out
   rw [List.drop_length,List.take_length] at this
   exact this
end Go.Proofs.YtkdgkomnbjepdaaGreatDoor

import Derived.Test.YtkdgkomnbjepdaaGreatDoorQb
import Derived.Test.YtkdgkomnbjepdaaGreatDoorQa
import Derived.Test.YtkdgkomnbjepdaaGreatDoorTa
namespace Go.Proofs.YtkdgkomnbjepdaaGreatDoor
open Go.RowKit Go.Sort
set_option linter.unusedVariables false
attribute [local go_sem ↓] Go.wp_at_zero Go.wp_at_succ
set_option maxRecDepth 100000 in
set_option maxHeartbeats 1600000 in
theorem stms_pen (w0 : World) (P : Nat) (l key : List UInt8) (hkey : key.length ≤ 10) (ao : Option Addr) (n c : Nat) (ss : List StmD) (w : World) (hok : StmsOK ss) (hs : StmsOf w0 ao n ss) (hw : Below w0.heap.size w0 w) (hT : Tabs w w0.heap.size) (h : PenAt w w0.heap.size P l false) (hlen : l.length ≤ 10000000000000) :
  Calls Tryz.prog 46 #[.pointer (some ⟨P,0,none⟩),.string ⟨key.toArray⟩,.slice ao n c] w fun e w' => e = .returned (.tuple #[]) ∧ PenAt w' w0.heap.size P (l ++ stmsT key ss n) false ∧ Wr w0.heap.size P w w' := by
 have HL := hid hs.1
 have hn : n ≤ 50 := by rw [← hs.1]; exact hok.1
 have HS := hid hs
 have HO := hid hok
 have HT := hid hT
 have H := hid h
 have HW0 := hid hw
 have HK := hid hkey
 have HLN := hid hlen
 have HB : Hid (w0.heap.size ≤ w.heap.size) := hid hw.size
 clear hT h hw hok hs hkey hlen
 go_enter Tryz.func46,Tryz.ntmps46
 go_wp2
 go_loopw [10] (fun i wr => ∃ (k : Nat),k ≤ n ∧ i = .int .i64 k ∧ PenAt wr w0.heap.size P (l ++ stmsT key ss k) false ∧ Wr w0.heap.size P w wr) (fun i _ => n - (intOf i).toNat)
 case atStart => exact ⟨0,Nat.zero_le _,rfl,by simpa [stmsT,catTo] using H.out,Wr.refl _ _ _⟩
 case round =>
  obtain ⟨k,hk,rfl,hp,hw⟩ := hrel
  have HP := hid hp
  have HW := hid hw
  clear hp hw
  by_cases hlt : k < n
  ·obtain ⟨b,off,rfl,hbl,hc⟩ := HS.out.2 (by omega)
   obtain ⟨s,es⟩ : ∃ s,s = ss.getD k stm0 := ⟨_,rfl⟩
   have hk4 := hc k hlt
   rw [← es] at hk4
   obtain ⟨c0,c1,c2,co,cn,cc,c3,hcn,hit⟩ := hk4
   have BR : Hid (Below w0.heap.size w0 wr) := hid (HW0.out.trans HW.out.bel)
   have c0 := (BR.out.cell (p := ⟨b,off + k * 4,none⟩) hbl).trans c0
   have c1 := (BR.out.cell (p := ⟨b,off + k * 4 + 1,none⟩) hbl).trans c1
   have c2 := (BR.out.cell (p := ⟨b,off + k * 4 + 2,none⟩) hbl).trans c2
   have c3 := (BR.out.cell (p := ⟨b,off + k * 4 + 3,none⟩) hbl).trans c3
   have hsk := HO.out.2 k (by rw [HL.out]; exact hlt)
   rw [← es] at hsk
   have tl := stmsT_l HK.out HO.out (n := k) (by rw [HL.out]; exact hk)
   have sl := stmT_l hsk
   have kl := HK.out
   have ln := HLN.out
   have ES : Hid (stmsT key ss (k + 1) = stmsT key ss k ++ (key ++ [32] ++ stmT s ++ [10])) := hid (by rw [es]; rfl)
   obtain ⟨kd,sa,sb,sc⟩ := s
   dsimp only at c0 c1 c2 hit
   have hbl' : b < wr.heap.size := Nat.lt_of_lt_of_le hbl BR.out.size
   obtain ⟨hBP,hPl,_,_⟩ := HP.out.box
   obtain ⟨Z,hZ⟩ : ∃ Z,Z = wr.alloc (.cells #[.int .i64 kd,.int .i64 sa,.int .i64 sb,.slice co cn cc] 105) := ⟨_,rfl⟩
   have BZ := hid (show Below wr.heap.size wr Z by rw [hZ]; exact below1 _ _)
   have XZ := hid (heap_alloc_new wr (.cells #[.int .i64 kd,.int .i64 sa,.int .i64 sb,.slice co cn cc] 105))
   rw [← hZ] at XZ
   have KZ : Hid (Wr w0.heap.size P w Z) := hid (HW.out.of HB.out BZ.out)
   have PX : Hid (wr.heap.size ≠ P) := hid (by omega)
   obtain ⟨l0,hl0⟩ : ∃ x,x = l ++ stmsT key ss k := ⟨_,rfl⟩
   have e0 : l0.length ≤ 10000000250000 := by rw [hl0]; simp; omega
   have HP' : Hid (PenAt Z w0.heap.size P l0 false) := hid (by rw [hl0]; exact HP.out.below BZ.out)
   obtain ⟨l1,hl1⟩ : ∃ x,x = l0 ++ gap false ++ key := ⟨_,rfl⟩
   have e1 : l1.length ≤ 10000000250010 := by rw [hl1]; simp [gap]; omega
   obtain ⟨l2,hl2⟩ : ∃ x,x = l1 ++ ([32] ++ stmT ⟨kd,sa,sb,sc⟩) := ⟨_,rfl⟩
   have e2 : l2.length ≤ 10000000260010 := by rw [hl2]; simp; omega
   have EE : Hid (l2 ++ [10] = l ++ stmsT key ss (k + 1)) := hid (by rw [ES.out,hl2,hl1,hl0]; simp [gap])
   have C1 := hid (word_pen w0.heap.size P l0 key false Z HP'.out (by omega) (Nat.le_trans HB.out KZ.out.size))
   have C2 := hid (fun (w1 : World) (k1 : Wr w0.heap.size P w w1) (h1 : PenAt w1 w0.heap.size P l1 true) => stm_pen w0 P l1 kd sa sb co cn cc sc w1 hsk hit (HW0.out.trans k1.bel) (HT.out.below k1.bel) h1 (by omega))
   have C3 := hid (fun (w1 : World) (k1 : Wr w0.heap.size P w w1) (h1 : PenAt w1 w0.heap.size P l2 true) => end_pen w0.heap.size P l2 true w1 h1 (by omega) (Nat.le_trans HB.out k1.size))
   rw [← hl1] at C1
   rw [← hl2] at C2
   have C1' : Hid (Calls Tryz.prog 42 #[.pointer (some ⟨P,0,none⟩),.string ⟨key.toArray⟩] (wr.alloc (.cells #[.int .i64 kd,.int .i64 sa,.int .i64 sb,.slice co cn cc] 105)) fun e w' => e = .returned (.tuple #[]) ∧ PenAt w' w0.heap.size P l1 true ∧ Wr w0.heap.size P Z w') := hid (by rw [← hZ]; exact C1.out)
   have HLT := hid hlt
   clear hc es hit hsk tl sl kl ln hl0 hl1 hl2 e0 e1 e2 hZ C1 hPl hBP
   go_wp2_with (first
    | (go_at_call 42; with_reducible refine C1'.out.mono ?_; rintro e w1 ⟨rfl,h1,k1⟩; have H1 := hid h1; have K1 := hid (KZ.out.trans k1); obtain ⟨x0,x1,x2,x3⟩ := four_cells (k1.box XZ.out PX.out (by decide)); clear h1 k1)
    | (go_at_call 80; with_reducible refine (C2.out w1 K1.out H1.out).mono ?_; rintro e w2 ⟨rfl,h2,k2⟩; have H2 := hid h2; have K2 := hid (K1.out.trans k2); clear h2 k2)
    | (go_at_call 44; with_reducible refine (C3.out w2 K2.out H2.out).mono ?_; rintro e w3 ⟨rfl,h3,k3⟩; have H3 := hid h3; have K3 := hid (K2.out.trans k3); clear h3 k3))
   go_roundw
   case rel => exact ⟨k + 1,by have := HLT.out; omega,by go_num,by rw [← EE.out]; exact H3.out,K3.out⟩
   case measure => have := HLT.out; simp [intOf]; omega
  ·have e : k = n := by omega
   subst e
   go_wp2
   go_end0
   exact ⟨rfl,HP.out,HW.out⟩
set_option maxRecDepth 100000 in
set_option maxHeartbeats 1600000 in
theorem transition_pen (w0 : World) (P : Nat) (l : List UInt8) (t : TrD) (co fo : Option Addr) (cn cc fn fc : Nat) (w : World) (hok : TrOK t) (hs : ItemsOf w0 co cn t.guard) (hw : Below w0.heap.size w0 w) (hT : Tabs w w0.heap.size) (h : PenAt w w0.heap.size P l false) (hlen : l.length ≤ 10000000000000) :
  Calls Tryz.prog 47 #[.pointer (some ⟨P,0,none⟩),.agg #[.int .i64 t.src,.int .i64 t.sig,.slice co cn cc,.int .i64 t.target,.slice fo fn fc]] w fun e w' => e = .returned (.tuple #[]) ∧ PenAt w' w0.heap.size P (l ++ trHead t) false ∧ Wr w0.heap.size P w w' := by
 obtain ⟨pp,ii,gg,jj,aa⟩ := t
 obtain ⟨g1,g2,g3,g4,g5⟩ := hok
 dsimp only at *
 have i1 := itoa_l g1
 have i2 := itoa_l g2
 have i3 := itoa_l g3
 have cl := codeT_l g4 (Nat.le_refl _)
 have hcl : gg.length = cn := hs.1
 have hB := hw.size
 obtain ⟨hBP,hPl,_,_⟩ := h.box
 obtain ⟨Z,hZ⟩ : ∃ Z,Z = w.alloc (.cells #[.int .i64 pp,.int .i64 ii,.slice co cn cc,.int .i64 jj,.slice fo fn fc] 75) := ⟨_,rfl⟩
 have BZ := hid (show Below w.heap.size w Z by rw [hZ]; exact below1 _ _)
 have XZ := hid (heap_alloc_new w (.cells #[.int .i64 pp,.int .i64 ii,.slice co cn cc,.int .i64 jj,.slice fo fn fc] 75))
 rw [← hZ] at XZ
 have KZ : Hid (Wr w0.heap.size P w Z) := hid (Wr.of_below hB BZ.out)
 have PX : Hid (w.heap.size ≠ P) := hid (by omega)
 obtain ⟨l1,hl1⟩ : ∃ x,x = l ++ gap false ++ [111,110] := ⟨_,rfl⟩
 have e1 : l1.length ≤ l.length + 2 := by rw [hl1]; simp [gap]
 obtain ⟨l2,hl2⟩ : ∃ x,x = l1 ++ numT [pp,ii,jj] 3 := ⟨_,rfl⟩
 have e2 : l2.length ≤ l.length + 68 := by rw [hl2]; simp [numT,catTo]; omega
 obtain ⟨l3,hl3⟩ : ∃ x,x = l2 ++ codeT gg cn := ⟨_,rfl⟩
 have e3 : l3.length ≤ l.length + 4700 := by rw [hl3]; rw [hcl] at cl; simp; omega
 have EE : Hid (l3 ++ [10] = l ++ trHead ⟨pp,ii,gg,jj,aa⟩) := hid (by rw [hl3,hl2,hl1]; simp [gap,trHead,numT,catTo,hcl])
 have C1 := hid (word_pen w0.heap.size P l [111,110] false Z (h.below BZ.out) (by simp; omega) (Nat.le_trans hB KZ.out.size))
 have C2 := hid (fun (w1 : World) (k1 : Wr w0.heap.size P w w1) (h1 : PenAt w1 w0.heap.size P l1 true) => num3 w0.heap.size P l1 pp ii jj w1 (hT.below k1.bel) h1 (by omega) (Nat.le_trans hB k1.size) g1 g2 g3)
 have C3 := hid (fun (w1 : World) (k1 : Wr w0.heap.size P w w1) (h1 : PenAt w1 w0.heap.size P l2 true) => code_pen w0 P l2 co cn cc gg w1 g4 hs (hw.trans k1.bel) (hT.below k1.bel) h1 (by omega))
 have C4 := hid (fun (w1 : World) (k1 : Wr w0.heap.size P w w1) (h1 : PenAt w1 w0.heap.size P l3 true) => end_pen w0.heap.size P l3 true w1 h1 (by omega) (Nat.le_trans hB k1.size))
 rw [← hl1] at C1
 rw [← hl2] at C2
 rw [← hl3] at C3
 have C1' : Hid (Calls Tryz.prog 42 #[.pointer (some ⟨P,0,none⟩),.string ⟨#[111,110]⟩] (w.alloc (.cells #[.int .i64 pp,.int .i64 ii,.slice co cn cc,.int .i64 jj,.slice fo fn fc] 75)) fun e w' => e = .returned (.tuple #[]) ∧ PenAt w' w0.heap.size P l1 true ∧ Wr w0.heap.size P Z w') := hid (by rw [← hZ]; exact C1.out)
 clear hl1 hl2 hl3 e1 e2 e3 i1 i2 i3 cl hcl hZ C1 hT h hlen hs hw g1 g2 g3 g4 g5 hB hPl hBP
 go_enter Tryz.func47,Tryz.ntmps47
 go_wp2_with (first
  | (go_at_call 42; with_reducible refine C1'.out.mono ?_; rintro e w1 ⟨rfl,h1,k1⟩; have H1 := hid h1; have K1 := hid (KZ.out.trans k1); obtain ⟨x0,x1,x2,x3,x4⟩ := five_cc (k1.box XZ.out PX.out (by decide)); have X1 := hid (k1.box XZ.out PX.out (by decide)); clear h1 k1)
  | (go_at_call 43; with_reducible refine (C2.out w1 K1.out H1.out).mono ?_; rintro e w2 ⟨rfl,h2,k2⟩; have H2 := hid h2; have K2 := hid (K1.out.trans k2); obtain ⟨x0,x1,x2,x3,x4⟩ := five_cc (k2.box X1.out PX.out (by decide)); clear h2 k2)
  | (go_at_call 81; with_reducible refine (C3.out w2 K2.out H2.out).mono ?_; rintro e w3 ⟨rfl,h3,k3⟩; have H3 := hid h3; have K3 := hid (K2.out.trans k3); clear h3 k3)
  | (go_at_call 44; with_reducible refine (C4.out w3 K3.out H3.out).mono ?_; rintro e w4 ⟨rfl,h4,k4⟩; have H4 := hid h4; have K4 := hid (K3.out.trans k4); clear h4 k4))
 go_end0
 exact ⟨rfl,by have h := H4.out; rw [EE.out] at h; exact h,K4.out⟩
end Go.Proofs.YtkdgkomnbjepdaaGreatDoor
namespace Go.Proofs.YtkdgkomnbjepdaaGreatDoor
open Go.RowKit Go.Sort
set_option linter.unusedVariables false
attribute [local go_sem ↓] Go.wp_at_zero Go.wp_at_succ
theorem line1 (B P : Nat) (l wd : List UInt8) (z : Int) (w : World) (hT : Tabs w B) (h : PenAt w B P l false) (hlen : l.length ≤ 10000000000000) (hwd : wd.length ≤ 20) (hB : B ≤ w.heap.size) (hz : I64 z) :
  Calls Tryz.prog 26 #[.pointer (some ⟨P,0,none⟩),.string ⟨wd.toArray⟩,.slice (some ⟨w.heap.size,0,none⟩) 1 1] (w.alloc (.cells #[.int .i64 z] 3)) fun e w' => e = .returned (.tuple #[]) ∧ PenAt w' B P (l ++ lineT wd [z]) false ∧ Wr B P w w' :=
 lineN B P l wd [z] w hT h hlen hwd hB (by simp) (fun j hj => by
  have : j = 0 := by simpa using hj
  subst this; exact hz)
theorem line2 (B P : Nat) (l wd : List UInt8) (y z : Int) (w : World) (hT : Tabs w B) (h : PenAt w B P l false) (hlen : l.length ≤ 10000000000000) (hwd : wd.length ≤ 20) (hB : B ≤ w.heap.size) (hy : I64 y) (hz : I64 z) :
  Calls Tryz.prog 26 #[.pointer (some ⟨P,0,none⟩),.string ⟨wd.toArray⟩,.slice (some ⟨w.heap.size,0,none⟩) 2 2] (w.alloc (.cells #[.int .i64 y,.int .i64 z] 3)) fun e w' => e = .returned (.tuple #[]) ∧ PenAt w' B P (l ++ lineT wd [y,z]) false ∧ Wr B P w w' :=
 lineN B P l wd [y,z] w hT h hlen hwd hB (by simp) (fun j hj => by
  have : j = 0 ∨ j = 1 := by simp at hj; omega
  rcases this with rfl | rfl
  ·exact hy
  ·exact hz)
theorem line3 (B P : Nat) (l wd : List UInt8) (x y z : Int) (w : World) (hT : Tabs w B) (h : PenAt w B P l false) (hlen : l.length ≤ 10000000000000) (hwd : wd.length ≤ 20) (hB : B ≤ w.heap.size) (hx : I64 x) (hy : I64 y) (hz : I64 z) :
  Calls Tryz.prog 26 #[.pointer (some ⟨P,0,none⟩),.string ⟨wd.toArray⟩,.slice (some ⟨w.heap.size,0,none⟩) 3 3] (w.alloc (.cells #[.int .i64 x,.int .i64 y,.int .i64 z] 3)) fun e w' => e = .returned (.tuple #[]) ∧ PenAt w' B P (l ++ lineT wd [x,y,z]) false ∧ Wr B P w w' :=
 lineN B P l wd [x,y,z] w hT h hlen hwd hB (by simp) (fun j hj => by
  have : j = 0 ∨ j = 1 ∨ j = 2 := by simp at hj; omega
  rcases this with rfl | rfl | rfl
  ·exact hx
  ·exact hy
  ·exact hz)
set_option maxRecDepth 100000 in
set_option maxHeartbeats 4000000 in
theorem object_pen (w0 : World) (P : Nat) (l : List UInt8) (x : ObD) (h : ObS) (w : World) (hok : ObOK x) (hs : ObOf w0 h x) (hw : Below w0.heap.size w0 w) (hT : Tabs w w0.heap.size) (hp : PenAt w w0.heap.size P l false) (hlen : l.length ≤ 1000000000000) :
  Calls Tryz.prog 27 #[.pointer (some ⟨P,0,none⟩),.agg #[.int .i64 x.prio,.int .i64 x.qcap,.int .i64 x.dcap,.slice h.ko h.kn h.kc,.slice h.vo h.vn h.vc,.slice h.uo h.un h.uc,.slice h.so h.sn h.sc,.slice h.to h.tn h.tc]] w fun e w' => e = .returned (.tuple #[]) ∧ PenAt w' w0.heap.size P (l ++ obT x) false ∧ Wr w0.heap.size P w w' := by
 have OB := hid hok
 have OF := hid hs
 have hkn : h.kn ≤ 32 := by have h1 := hs.hk.1; have h2 := hok.kn; omega
 have hun : h.un ≤ 1048576 := by have h1 := hs.hu.1; have h2 := hok.un; omega
 have hsn : h.sn ≤ 200 := by have h1 := hs.hs.1; have h2 := hok.sn; omega
 have htn : h.tn ≤ 500 := by have h1 := hs.ht.1; have h2 := hok.tn; omega
 obtain ⟨ko,kn,kc,vo,vn,vc,uo,un,uc,so,sn,sc,tt,tn,tc⟩ := h
 obtain ⟨p,qc,dc,ks,vs,us,ss,tr⟩ := x
 obtain ⟨gp,gq,gd⟩ := (⟨hok.p,hok.q,hok.d⟩ : I64 p ∧ I64 qc ∧ I64 dc)
 dsimp only at hkn hun hsn htn ⊢
 have hB := hw.size
 obtain ⟨hBP,hPl,_,_⟩ := hp.box
 have hhl := obHead_l hok
 have hvl0 : ks.length = kn := hs.hk.1
 have hul0 : us.length = un := hs.hu.1
 have hsl0 : ss.length = sn := hs.hs.1
 have htl0 : tr.length = tn := hs.ht.1
 obtain ⟨Z,hZ⟩ : ∃ Z,Z = w.alloc (.cells #[.int .i64 p,.int .i64 qc,.int .i64 dc,.slice ko kn kc,.slice vo vn vc,.slice uo un uc,.slice so sn sc,.slice tt tn tc] 66) := ⟨_,rfl⟩
 have BZ := hid (show Below w.heap.size w Z by rw [hZ]; exact below1 _ _)
 have XZ := hid (heap_alloc_new w (.cells #[.int .i64 p,.int .i64 qc,.int .i64 dc,.slice ko kn kc,.slice vo vn vc,.slice uo un uc,.slice so sn sc,.slice tt tn tc] 66))
 rw [← hZ] at XZ
 have KZ : Hid (Wr w0.heap.size P w Z) := hid (Wr.of_below hB BZ.out)
 have PX : Hid (w.heap.size ≠ P) := hid (by omega)
 have TZ : Hid (Tabs Z w0.heap.size) := hid (hT.below KZ.out.bel)
 have WZ : Hid (Below w0.heap.size w0 Z) := hid (hw.trans KZ.out.bel)
 have ZB : Hid (w0.heap.size ≤ Z.heap.size) := hid (Nat.le_trans hB KZ.out.size)
 obtain ⟨a1,ha1⟩ : ∃ a,a = l ++ lineT [111,98,106,101,99,116] [p,qc,dc] := ⟨_,rfl⟩
 have EA : Hid (a1 = l ++ obHead ⟨p,qc,dc,ks,vs,us,ss,tr⟩) := hid (by rw [ha1]; simp [lineT,numT,catTo,obHead])
 have a1l : a1.length ≤ 1000000000100 := by rw [EA.out]; simp only [List.length_append]; omega
 have C1 := hid (line3 w0.heap.size P l [111,98,106,101,99,116] p qc dc Z TZ.out (hp.below BZ.out) (by omega) (by decide) ZB.out gp gq gd)
 rw [← ha1] at C1
 obtain ⟨H0,hH0⟩ : ∃ H,H = w.heap.size := ⟨_,rfl⟩
 have XZ' : Hid (Z.heap[H0]? = some (.cells #[.int .i64 p,.int .i64 qc,.int .i64 dc,.slice ko kn kc,.slice vo vn vc,.slice uo un uc,.slice so sn sc,.slice tt tn tc] 66 (0,0))) := hid (by rw [hH0]; exact XZ.out)
 have PX' : Hid (H0 ≠ P) := hid (by rw [hH0]; exact PX.out)
 obtain ⟨d0,d1,d2,d3,d4,d5,d6,d7⟩ := eight_cells XZ'.out
 have dl := lt_of_block XZ'.out
 clear hok hs hw hT hp hlen gp gq gd hhl hBP hPl ha1 XZ PX
 go_enter Tryz.func27,Tryz.ntmps27
 go_upto_region 1 with fail
 rw [← hH0,← hZ]
 clear hH0 hZ
 go_wp2_with (go_at_call 26; with_reducible refine C1.out.mono ?_; rintro e w1 ⟨rfl,h1,k1⟩; have H1 := hid h1; have K1 := hid k1; clear d0 d1 d2 d3 d4 d5 d6 d7; obtain ⟨d0,d1,d2,d3,d4,d5,d6,d7⟩ := eight_cells (k1.box XZ'.out PX'.out (by decide)); clear h1 k1)
 go_loopw [25] (fun i wr => ∃ (k : Nat),k ≤ kn ∧ i = .int .i64 k ∧ PenAt wr w0.heap.size P (a1 ++ varsT ks vs k) false ∧ Wr w0.heap.size P Z wr) (fun i _ => kn - (intOf i).toNat)
 case atStart => exact ⟨0,Nat.zero_le _,rfl,by simpa [varsT,catTo] using H1.out,K1.out⟩
 case round =>
  obtain ⟨R1,hR1⟩ : ∃ R,R = wr := ⟨_,rfl⟩
  subst hR1
  obtain ⟨k,hk,rfl,hp1,hw1⟩ := hrel
  have P1 := hid hp1
  have W1 := hid hw1
  clear d0 d1 d2 d3 d4 d5 d6 d7 dl hp1 hw1
  obtain ⟨d0,d1,d2,d3,d4,d5,d6,d7⟩ := eight_cells (W1.out.box XZ'.out PX'.out (by decide))
  have dl := lt_of_block (W1.out.box XZ'.out PX'.out (by decide))
  have BR : Hid (Below w0.heap.size w0 R1) := hid (WZ.out.trans W1.out.bel)
  have tl := varsT_l OB.out (n := k) (by dsimp only; omega)
  dsimp only at tl
  by_cases hlt : k < kn
  ·have hvl : vs.length = kn := by rw [← hvl0]; exact OB.out.kl.symm
   have hvn : vn = kn := by rw [← hvl]; exact OF.out.hv.1.symm
   subst hvn
   obtain ⟨kb,ko2,rfl,hkb,hck⟩ := OF.out.hk.2 (by dsimp only; omega)
   obtain ⟨vb,vo2,rfl,hvb,hcv⟩ := OF.out.hv.2 (by dsimp only; omega)
   dsimp only at hkb hck hvb hcv
   obtain ⟨kd,hkd⟩ : ∃ z,z = ks.getD k 0 := ⟨_,rfl⟩
   obtain ⟨vv,hvv⟩ : ∃ z,z = vs.getD k 0 := ⟨_,rfl⟩
   have c0 := (BR.out.cell (p := ⟨kb,ko2 + k,none⟩) hkb).trans (hck k hlt)
   have c1 := (BR.out.cell (p := ⟨vb,vo2 + k,none⟩) hvb).trans (hcv k hlt)
   have r1 := OB.out.k k (by dsimp only; omega)
   have r2 := OB.out.v k (by dsimp only; omega)
   dsimp only at r1 r2
   rw [← hkd] at c0 r1
   rw [← hvv] at c1 r2
   have hkb' : kb < R1.heap.size := Nat.lt_of_lt_of_le hkb BR.out.size
   have hvb' : vb < R1.heap.size := Nat.lt_of_lt_of_le hvb BR.out.size
   have EV : Hid (varsT ks vs (k + 1) = varsT ks vs k ++ varT kd vv) := hid (by rw [hkd,hvv]; rfl)
   have C2 := hid (variable_pen w0.heap.size P (a1 ++ varsT ks vs k) kd vv R1 r1 r2 (TZ.out.below W1.out.bel) P1.out (by simp; omega) (Nat.le_trans ZB.out W1.out.size))
   have HLT := hid hlt
   clear hkd hvv hck hcv r1 r2 tl hvl OB OF
   go_wp2_with (go_at_call 45; with_reducible refine C2.out.mono ?_; rintro e w2 ⟨rfl,h2,k2⟩; have H2 := hid h2; have K2 := hid (W1.out.trans k2); clear h2 k2)
   go_roundw
   case rel => exact ⟨k + 1,by have := HLT.out; omega,by go_num,by rw [EV.out,← List.append_assoc]; exact H2.out,K2.out⟩
   case measure => have := HLT.out; simp [intOf]; omega
  ·have ek : k = kn := by omega
   subst ek
   obtain ⟨b1,hb1⟩ : ∃ u,u = a1 ++ varsT ks vs k := ⟨_,rfl⟩
   have b1l : b1.length ≤ 1000000001100 := by rw [hb1]; simp; omega
   rw [← hb1] at P1
   have E1 := hid hb1
   clear tl a1l hb1
   go_wp2_with fail
   go_loopw [43] (fun i wr => ∃ (m : Nat),m ≤ un ∧ i = .int .i64 m ∧ PenAt wr w0.heap.size P (b1 ++ subsT us m) false ∧ Wr w0.heap.size P Z wr) (fun i _ => un - (intOf i).toNat)
   case atStart => exact ⟨0,Nat.zero_le _,rfl,by simpa [subsT,catTo] using P1.out,W1.out⟩
   case round =>
    obtain ⟨R2,hR2⟩ : ∃ R,R = wr := ⟨_,rfl⟩
    subst hR2
    obtain ⟨m,hm,rfl,hp2,hw2⟩ := hrel
    have P2 := hid hp2
    have W2 := hid hw2
    clear d0 d1 d2 d3 d4 d5 d6 d7 dl hp2 hw2
    obtain ⟨d0,d1,d2,d3,d4,d5,d6,d7⟩ := eight_cells (W2.out.box XZ'.out PX'.out (by decide))
    have dl := lt_of_block (W2.out.box XZ'.out PX'.out (by decide))
    have BR2 : Hid (Below w0.heap.size w0 R2) := hid (WZ.out.trans W2.out.bel)
    have tl := subsT_l OB.out (n := m) (by dsimp only; omega)
    dsimp only at tl
    by_cases hmt : m < un
    ·obtain ⟨kb,ko2,rfl,hkb,hck⟩ := OF.out.hu.2 (by dsimp only; omega)
     dsimp only at hkb hck
     obtain ⟨kd,hkd⟩ : ∃ z,z = us.getD m 0 := ⟨_,rfl⟩
     have c0 := (BR2.out.cell (p := ⟨kb,ko2 + m,none⟩) hkb).trans (hck m hmt)
     have r1 := OB.out.u m (by dsimp only; omega)
     dsimp only at r1
     rw [← hkd] at c0 r1
     have hkb' : kb < R2.heap.size := Nat.lt_of_lt_of_le hkb BR2.out.size
     have EV : Hid (subsT us (m + 1) = subsT us m ++ lineT [115,117,98] [kd]) := hid (by rw [hkd]; simp [subsT,catTo,subT,lineT,numT])
     have C2 := hid (line1 w0.heap.size P (b1 ++ subsT us m) [115,117,98] kd R2 (TZ.out.below W2.out.bel) P2.out (by simp; omega) (by decide) (Nat.le_trans ZB.out W2.out.size) r1)
     have HLT := hid hmt
     clear hkd hck r1 tl OB OF
     go_wp2_with (go_at_call 26; with_reducible refine C2.out.mono ?_; rintro e w2 ⟨rfl,h2,k2⟩; have H2 := hid h2; have K2 := hid (W2.out.trans k2); clear h2 k2)
     go_roundw
     case rel => exact ⟨m + 1,by have := HLT.out; omega,by go_num,by rw [EV.out,← List.append_assoc]; exact H2.out,K2.out⟩
     case measure => have := HLT.out; simp [intOf]; omega
    ·have em : m = un := by omega
     subst em
     obtain ⟨b2,hb2⟩ : ∃ u,u = b1 ++ subsT us m := ⟨_,rfl⟩
     have b2l : b2.length ≤ 1000040001100 := by rw [hb2]; simp; omega
     rw [← hb2] at P2
     have E2 := hid hb2
     clear tl b1l hb2
     go_wp2_with fail
     go_loopw [56] (fun i wr => ∃ (y : Nat),y ≤ sn ∧ i = .int .i64 y ∧ PenAt wr w0.heap.size P (b2 ++ stsT ss y) false ∧ Wr w0.heap.size P Z wr) (fun i _ => sn - (intOf i).toNat)
     case atStart => exact ⟨0,Nat.zero_le _,rfl,by simpa [stsT,catTo] using P2.out,W2.out⟩
     case round =>
      obtain ⟨R3,hR3⟩ : ∃ R,R = wr := ⟨_,rfl⟩
      subst hR3
      obtain ⟨y,hy,rfl,hp3,hw3⟩ := hrel
      have P3 := hid hp3
      have W3 := hid hw3
      clear d0 d1 d2 d3 d4 d5 d6 d7 dl hp3 hw3
      obtain ⟨d0,d1,d2,d3,d4,d5,d6,d7⟩ := eight_cells (W3.out.box XZ'.out PX'.out (by decide))
      have dl := lt_of_block (W3.out.box XZ'.out PX'.out (by decide))
      have BR3 : Hid (Below w0.heap.size w0 R3) := hid (WZ.out.trans W3.out.bel)
      have tl := stsT_l OB.out (n := y) (by dsimp only; omega)
      dsimp only at tl
      by_cases hyt : y < sn
      ·obtain ⟨kb,ko2,rfl,hkb,hck⟩ := OF.out.hs.2 (by dsimp only; omega)
       dsimp only at hkb hck
       obtain ⟨x,ex⟩ : ∃ z,z = ss.getD y st0 := ⟨_,rfl⟩
       have hx4 := hck y hyt
       have hst := OB.out.s y (by dsimp only; omega)
       dsimp only at hst
       have EV : Hid (stsT ss (y + 1) = stsT ss y ++ stT x) := hid (by rw [ex]; rfl)
       rw [← ex] at hx4 hst
       have hhl := stHead_l hst
       obtain ⟨pp,ii,en',ex'⟩ := x
       obtain ⟨c0,c1,⟨eo2,en2,ec2,c2,hen2,hE⟩,⟨fo2,fn2,fc2,c3,hfn2,hF⟩⟩ := hx4
       obtain ⟨g1,g2,g3,g4⟩ := hst
       dsimp only at c0 c1 hE hF g1 g2 g3 g4
       have c0 := (BR3.out.cell (p := ⟨kb,ko2 + y * 4,none⟩) hkb).trans c0
       have c1 := (BR3.out.cell (p := ⟨kb,ko2 + y * 4 + 1,none⟩) hkb).trans c1
       have c2 := (BR3.out.cell (p := ⟨kb,ko2 + y * 4 + 2,none⟩) hkb).trans c2
       have c3 := (BR3.out.cell (p := ⟨kb,ko2 + y * 4 + 3,none⟩) hkb).trans c3
       have hkb' : kb < R3.heap.size := Nat.lt_of_lt_of_le hkb BR3.out.size
       have nE : en'.length = en2 := hE.1
       have nF : ex'.length = fn2 := hF.1
       have lE := stmsT_l (key := [101,110,116,114,121]) (by decide) g3 (Nat.le_refl _)
       have lF := stmsT_l (key := [101,120,105,116]) (by decide) g4 (Nat.le_refl _)
       rw [nE] at lE
       rw [nF] at lF
       obtain ⟨V,hV⟩ : ∃ V,V = R3.alloc (.cells #[.int .i64 pp,.int .i64 ii,.slice eo2 en2 ec2,.slice fo2 fn2 fc2] 71) := ⟨_,rfl⟩
       have BV := hid (show Below R3.heap.size R3 V by rw [hV]; exact below1 _ _)
       have XV := hid (heap_alloc_new R3 (.cells #[.int .i64 pp,.int .i64 ii,.slice eo2 en2 ec2,.slice fo2 fn2 fc2] 71))
       rw [← hV] at XV
       have KV : Hid (Wr w0.heap.size P Z V) := hid (W3.out.of ZB.out BV.out)
       obtain ⟨HV,hHV⟩ : ∃ H,H = R3.heap.size := ⟨_,rfl⟩
       have PV : Hid (HV ≠ P) := hid (by have := P3.out.box.2.1; omega)
       have XV' : Hid (V.heap[HV]? = some (.cells #[.int .i64 pp,.int .i64 ii,.slice eo2 en2 ec2,.slice fo2 fn2 fc2] 71 (0,0))) := hid (by rw [hHV]; exact XV.out)
       obtain ⟨q1,hq1⟩ : ∃ x,x = b2 ++ stsT ss y ++ lineT [115,116,97,116,101] [pp,ii] := ⟨_,rfl⟩
       have q1l : q1.length ≤ 1000140101100 := by
        have e : lineT [115,116,97,116,101] [pp,ii] = stHead ⟨pp,ii,en',ex'⟩ := by simp [lineT,numT,catTo,stHead]
        rw [hq1,e]; simp only [List.length_append]; omega
       obtain ⟨q2,hq2⟩ : ∃ x,x = q1 ++ stmsT [101,110,116,114,121] en' en2 := ⟨_,rfl⟩
       have q2l : q2.length ≤ 1000140401100 := by rw [hq2]; simp only [List.length_append]; omega
       have EE : Hid (q2 ++ stmsT [101,120,105,116] ex' fn2 = b2 ++ stsT ss (y + 1)) := hid (by rw [EV.out,hq2,hq1]; simp [stT,stHead,lineT,numT,catTo,nE,nF])
       have C2 := hid (line2 w0.heap.size P (b2 ++ stsT ss y) [115,116,97,116,101] pp ii V (TZ.out.below KV.out.bel) (P3.out.below BV.out) (by simp; omega) (by decide) (Nat.le_trans ZB.out KV.out.size) g1 g2)
       have C3 := hid (fun (w1 : World) (k1 : Wr w0.heap.size P Z w1) (h1 : PenAt w1 w0.heap.size P q1 false) => stms_pen w0 P q1 [101,110,116,114,121] (by decide) eo2 en2 ec2 en' w1 g3 hE (WZ.out.trans k1.bel) (TZ.out.below k1.bel) h1 (by omega))
       have C4 := hid (fun (w1 : World) (k1 : Wr w0.heap.size P Z w1) (h1 : PenAt w1 w0.heap.size P q2 false) => stms_pen w0 P q2 [101,120,105,116] (by decide) fo2 fn2 fc2 ex' w1 g4 hF (WZ.out.trans k1.bel) (TZ.out.below k1.bel) h1 (by omega))
       rw [← hq1] at C2
       rw [← hq2] at C3
       obtain ⟨v0,v1,v2,v3⟩ := four_cells XV'.out
       have HLT := hid hyt
       clear hck ex g1 g2 g3 g4 hE hF lE lF nE nF tl hhl OB OF hq1 hq2 q1l q2l XV
       go_upto_region 15 with fail
       rw [← hHV,← hV]
       clear hHV hV
       go_wp2_with (first
        | (go_at_call 26; with_reducible refine C2.out.mono ?_; rintro e w1 ⟨rfl,h1,k1⟩; have H1 := hid h1; have K1 := hid (KV.out.trans k1); clear v0 v1 v2 v3; obtain ⟨v0,v1,v2,v3⟩ := four_cells (k1.box XV'.out PV.out (by decide)); have X1 := hid (k1.box XV'.out PV.out (by decide)); clear h1 k1)
        | (go_at_call 46; with_reducible refine (C3.out w1 K1.out H1.out).mono ?_; rintro e w2 ⟨rfl,h2,k2⟩; have H2 := hid h2; have K2 := hid (K1.out.trans k2); clear v0 v1 v2 v3; obtain ⟨v0,v1,v2,v3⟩ := four_cells (k2.box X1.out PV.out (by decide)); clear h2 k2)
        | (go_at_call 46; with_reducible refine (C4.out w2 K2.out H2.out).mono ?_; rintro e w3 ⟨rfl,h3,k3⟩; have H3 := hid h3; have K3 := hid (K2.out.trans k3); clear h3 k3))
       go_roundw
       case rel => exact ⟨y + 1,by have := HLT.out; omega,by go_num,by rw [← EE.out]; exact H3.out,K3.out⟩
       case measure => have := HLT.out; simp [intOf]; omega
      ·have ey : y = sn := by omega
       subst ey
       obtain ⟨b3,hb3⟩ : ∃ u,u = b2 ++ stsT ss y := ⟨_,rfl⟩
       have b3l : b3.length ≤ 1000140101100 := by rw [hb3]; simp; omega
       rw [← hb3] at P3
       have E3 := hid hb3
       clear tl b2l hb3
       go_wp2_with fail
       go_loopw [80] (fun i wr => ∃ (z : Nat),z ≤ tn ∧ i = .int .i64 z ∧ PenAt wr w0.heap.size P (b3 ++ trsT tr z) false ∧ Wr w0.heap.size P Z wr) (fun i _ => tn - (intOf i).toNat)
       case atStart => exact ⟨0,Nat.zero_le _,rfl,by simpa [trsT,catTo] using P3.out,W3.out⟩
       case round =>
        obtain ⟨R4,hR4⟩ : ∃ R,R = wr := ⟨_,rfl⟩
        subst hR4
        obtain ⟨z,hz,rfl,hp4,hw4⟩ := hrel
        have P4 := hid hp4
        have W4 := hid hw4
        clear d0 d1 d2 d3 d4 d5 d6 d7 dl hp4 hw4
        obtain ⟨d0,d1,d2,d3,d4,d5,d6,d7⟩ := eight_cells (W4.out.box XZ'.out PX'.out (by decide))
        have dl := lt_of_block (W4.out.box XZ'.out PX'.out (by decide))
        have BR4 : Hid (Below w0.heap.size w0 R4) := hid (WZ.out.trans W4.out.bel)
        have tl := trsT_l OB.out (n := z) (by dsimp only; omega)
        dsimp only at tl
        by_cases hzt : z < tn
        ·obtain ⟨kb,ko2,rfl,hkb,hck⟩ := OF.out.ht.2 (by dsimp only; omega)
         dsimp only at hkb hck
         obtain ⟨x,ex⟩ : ∃ y,y = tr.getD z tr0 := ⟨_,rfl⟩
         have hx5 := hck z hzt
         have htr := OB.out.t z (by dsimp only; omega)
         dsimp only at htr
         have EV : Hid (trsT tr (z + 1) = trsT tr z ++ trT x) := hid (by rw [ex]; rfl)
         rw [← ex] at hx5 htr
         have hhl := trHead_l htr
         obtain ⟨c0,c1,⟨eo2,en2,ec2,c2,hen2,hE⟩,c3,⟨fo2,fn2,fc2,c4,hfn2,hF⟩⟩ := hx5
         have c0 := (BR4.out.cell (p := ⟨kb,ko2 + z * 5,none⟩) hkb).trans c0
         have c1 := (BR4.out.cell (p := ⟨kb,ko2 + z * 5 + 1,none⟩) hkb).trans c1
         have c2 := (BR4.out.cell (p := ⟨kb,ko2 + z * 5 + 2,none⟩) hkb).trans c2
         have c3 := (BR4.out.cell (p := ⟨kb,ko2 + z * 5 + 3,none⟩) hkb).trans c3
         have c4 := (BR4.out.cell (p := ⟨kb,ko2 + z * 5 + 4,none⟩) hkb).trans c4
         have hkb' : kb < R4.heap.size := Nat.lt_of_lt_of_le hkb BR4.out.size
         have nF : x.action.length = fn2 := hF.1
         obtain ⟨V,hV⟩ : ∃ V,V = R4.alloc (.cells #[.int .i64 x.src,.int .i64 x.sig,.slice eo2 en2 ec2,.int .i64 x.target,.slice fo2 fn2 fc2] 75) := ⟨_,rfl⟩
         have BV := hid (show Below R4.heap.size R4 V by rw [hV]; exact below1 _ _)
         have XV := hid (heap_alloc_new R4 (.cells #[.int .i64 x.src,.int .i64 x.sig,.slice eo2 en2 ec2,.int .i64 x.target,.slice fo2 fn2 fc2] 75))
         rw [← hV] at XV
         have KV : Hid (Wr w0.heap.size P Z V) := hid (W4.out.of ZB.out BV.out)
         obtain ⟨HV,hHV⟩ : ∃ H,H = R4.heap.size := ⟨_,rfl⟩
         have PV : Hid (HV ≠ P) := hid (by have := P4.out.box.2.1; omega)
         have XV' : Hid (V.heap[HV]? = some (.cells #[.int .i64 x.src,.int .i64 x.sig,.slice eo2 en2 ec2,.int .i64 x.target,.slice fo2 fn2 fc2] 75 (0,0))) := hid (by rw [hHV]; exact XV.out)
         obtain ⟨q1,hq1⟩ : ∃ y,y = b3 ++ trsT tr z ++ trHead x := ⟨_,rfl⟩
         have q1l : q1.length ≤ 1000340101100 := by rw [hq1]; simp only [List.length_append]; omega
         have EE : Hid (q1 ++ stmsT [100,111] x.action fn2 = b3 ++ trsT tr (z + 1)) := hid (by rw [EV.out,hq1]; simp [trT,nF])
         have C2 := hid (transition_pen w0 P (b3 ++ trsT tr z) x eo2 fo2 en2 ec2 fn2 fc2 V htr hE (WZ.out.trans KV.out.bel) (TZ.out.below KV.out.bel) (P4.out.below BV.out) (by simp; omega))
         have C3 := hid (fun (w1 : World) (k1 : Wr w0.heap.size P Z w1) (h1 : PenAt w1 w0.heap.size P q1 false) => stms_pen w0 P q1 [100,111] (by decide) fo2 fn2 fc2 x.action w1 htr.ac hF (WZ.out.trans k1.bel) (TZ.out.below k1.bel) h1 (by omega))
         rw [← hq1] at C2
         obtain ⟨v0,v1,v2,v3,v4⟩ := five_cc XV'.out
         have HLT := hid hzt
         clear hck ex htr hE hF nF tl hhl OB OF hq1 q1l XV
         go_upto_region 22 with fail
         rw [← hHV,← hV]
         clear hHV hV
         go_wp2_with (first
          | (go_at_call 47; with_reducible refine C2.out.mono ?_; rintro e w1 ⟨rfl,h1,k1⟩; have H1 := hid h1; have K1 := hid (KV.out.trans k1); clear v0 v1 v2 v3 v4; obtain ⟨v0,v1,v2,v3,v4⟩ := five_cc (k1.box XV'.out PV.out (by decide)); clear h1 k1)
          | (go_at_call 46; with_reducible refine (C3.out w1 K1.out H1.out).mono ?_; rintro e w2 ⟨rfl,h2,k2⟩; have H2 := hid h2; have K2 := hid (K1.out.trans k2); clear h2 k2))
         go_roundw
         case rel => exact ⟨z + 1,by have := HLT.out; omega,by go_num,by rw [← EE.out]; exact H2.out,K2.out⟩
         case measure => have := HLT.out; simp [intOf]; omega
        ·have ez : z = tn := by omega
         subst ez
         have EZ : Hid (b3 ++ trsT tr z = l ++ obT ⟨p,qc,dc,ks,vs,us,ss,tr⟩) := hid (by
          rw [E3.out,E2.out,E1.out,EA.out]
          simp [obT,hvl0,hul0,hsl0,htl0])
         go_wp2_with fail
         go_end0
         exact ⟨rfl,by rw [← EZ.out]; exact P4.out,KZ.out.trans W4.out⟩
end Go.Proofs.YtkdgkomnbjepdaaGreatDoor
namespace Go.Proofs.YtkdgkomnbjepdaaGreatDoor
open Go.RowKit Go.Sort
set_option linter.unusedVariables false
attribute [local go_sem ↓] Go.wp_at_zero Go.wp_at_succ
end Go.Proofs.YtkdgkomnbjepdaaGreatDoor
namespace Go.Proofs.YtkdgkomnbjepdaaGreatDoor
open Go.RowKit Go.Sort
set_option linter.unusedVariables false
attribute [local go_sem ↓] Go.wp_at_zero Go.wp_at_succ
set_option maxRecDepth 100000 in
set_option maxHeartbeats 4000000 in
theorem system_pen (w0 : World) (P : Nat) (sg : Int) (eo xo : Option Addr) (en ec xn xc : Nat) (os : List ObD) (ts : List (Int × Int)) (w : World) (hok : SysOK' sg os ts) (he : ObsOf w0 eo en os) (hx : ItemsOf w0 xo xn ts) (hw : Below w0.heap.size w0 w) (hT : Tabs w w0.heap.size) (hp : PenAt w w0.heap.size P [] false) :
  Calls Tryz.prog 11 #[.pointer (some ⟨P,0,none⟩),.agg #[.int .i64 sg,.slice eo en ec,.slice xo xn xc]] w fun e w' => e = .returned (.tuple #[]) ∧ PenAt w' w0.heap.size P (sysT sg os ts) false ∧ Wr w0.heap.size P w w' := by
 have HO := hid hok
 have HE := hid he
 have HX := hid hx
 have hel : os.length = en := he.1
 have hxl : ts.length = xn := hx.1
 have hn64 : en ≤ 64 := by rw [← hel]; exact hok.on
 have hx200 : xn ≤ 200 := by rw [← hxl]; exact hok.tn
 have hgl := itoa_l hok.g
 have hB := hw.size
 obtain ⟨hBP,hPl,_,_⟩ := hp.box
 obtain ⟨Z,hZ⟩ : ∃ Z,Z = w.alloc (.cells #[.int .i64 sg,.slice eo en ec,.slice xo xn xc] 26) := ⟨_,rfl⟩
 have BZ := hid (show Below w.heap.size w Z by rw [hZ]; exact below1 _ _)
 have XZ := hid (heap_alloc_new w (.cells #[.int .i64 sg,.slice eo en ec,.slice xo xn xc] 26))
 rw [← hZ] at XZ
 have KZ : Hid (Wr w0.heap.size P w Z) := hid (Wr.of_below hB BZ.out)
 have TZ : Hid (Tabs Z w0.heap.size) := hid (hT.below KZ.out.bel)
 have WZ : Hid (Below w0.heap.size w0 Z) := hid (hw.trans KZ.out.bel)
 have ZB : Hid (w0.heap.size ≤ Z.heap.size) := hid (Nat.le_trans hB KZ.out.size)
 obtain ⟨H0,hH0⟩ : ∃ H,H = w.heap.size := ⟨_,rfl⟩
 have XZ' : Hid (Z.heap[H0]? = some (.cells #[.int .i64 sg,.slice eo en ec,.slice xo xn xc] 26 (0,0))) := hid (by rw [hH0]; exact XZ.out)
 have PX' : Hid (H0 ≠ P) := hid (by omega)
 obtain ⟨a1,ha1⟩ : ∃ a,a = ([] : List UInt8) ++ lineT [115,105,103,110,97,108,115] [sg] := ⟨_,rfl⟩
 have EA : Hid (a1 = [115,105,103,110,97,108,115,32] ++ Lib.itoa sg ++ [10]) := hid (by rw [ha1]; simp [lineT,numT,catTo])
 have a1l : a1.length ≤ 100 := by rw [EA.out]; simp; omega
 have C1 := hid (line1 w0.heap.size P [] [115,105,103,110,97,108,115] sg Z TZ.out (hp.below BZ.out) (by simp) (by decide) ZB.out hok.g)
 rw [← ha1] at C1
 obtain ⟨d0,d1,d2⟩ := three_cells XZ'.out
 have dl := lt_of_block XZ'.out
 clear hok he hx hw hT hp hgl hBP hPl ha1 XZ
 go_enter Tryz.func11,Tryz.ntmps11
 go_upto_region 1 with fail
 rw [← hH0,← hZ]
 clear hH0 hZ
 go_wp2_with (go_at_call 26; with_reducible refine C1.out.mono ?_; rintro e w1 ⟨rfl,h1,k1⟩; have H1 := hid h1; have K1 := hid k1; clear d0 d1 d2; obtain ⟨d0,d1,d2⟩ := three_cells (k1.box XZ'.out PX'.out (by decide)); clear h1 k1)
 go_loopw [16] (fun i wr => ∃ (k : Nat),k ≤ en ∧ i = .int .i64 k ∧ PenAt wr w0.heap.size P (a1 ++ obsT os k) false ∧ Wr w0.heap.size P Z wr) (fun i _ => en - (intOf i).toNat)
 case atStart => exact ⟨0,Nat.zero_le _,rfl,by simpa [obsT,catTo] using H1.out,K1.out⟩
 case round =>
  obtain ⟨R1,hR1⟩ : ∃ R,R = wr := ⟨_,rfl⟩
  subst hR1
  obtain ⟨k,hk,rfl,hp1,hw1⟩ := hrel
  have P1 := hid hp1
  have W1 := hid hw1
  clear d0 d1 d2 dl hp1 hw1
  obtain ⟨d0,d1,d2⟩ := three_cells (W1.out.box XZ'.out PX'.out (by decide))
  have dl := lt_of_block (W1.out.box XZ'.out PX'.out (by decide))
  have BR : Hid (Below w0.heap.size w0 R1) := hid (WZ.out.trans W1.out.bel)
  have tl := obsT_l HO.out (n := k) (by omega)
  by_cases hlt : k < en
  ·obtain ⟨b,off,rfl,hbl,hc⟩ := HE.out.2 (by omega)
   obtain ⟨x,ex⟩ : ∃ x,x = os.getD k ob0 := ⟨_,rfl⟩
   have hk8 := hc k hlt
   have hob := HO.out.o k (by omega)
   rw [← ex] at hk8 hob
   obtain ⟨h,hcs,hmx,hof⟩ := hk8
   obtain ⟨k0,k1,k2,k3,k4,k5,k6,k7⟩ := hcs.below hbl BR.out
   have hbl' : b < R1.heap.size := Nat.lt_of_lt_of_le hbl BR.out.size
   have ES : Hid (obsT os (k + 1) = obsT os k ++ obT x) := hid (by rw [ex]; rfl)
   obtain ⟨V,hV⟩ : ∃ V,V = R1.alloc (.cells #[.int .i64 x.prio,.int .i64 x.qcap,.int .i64 x.dcap,.slice h.ko h.kn h.kc,.slice h.vo h.vn h.vc,.slice h.uo h.un h.uc,.slice h.so h.sn h.sc,.slice h.to h.tn h.tc] 66) := ⟨_,rfl⟩
   have BV := hid (show Below R1.heap.size R1 V by rw [hV]; exact below1 _ _)
   have XV := hid (heap_alloc_new R1 (.cells #[.int .i64 x.prio,.int .i64 x.qcap,.int .i64 x.dcap,.slice h.ko h.kn h.kc,.slice h.vo h.vn h.vc,.slice h.uo h.un h.uc,.slice h.so h.sn h.sc,.slice h.to h.tn h.tc] 66))
   rw [← hV] at XV
   have KV : Hid (Wr w0.heap.size P Z V) := hid (W1.out.of ZB.out BV.out)
   have C2 := hid (object_pen w0 P (a1 ++ obsT os k) x h V hob hof (WZ.out.trans KV.out.bel) (TZ.out.below KV.out.bel) (P1.out.below BV.out) (by simp; omega))
   obtain ⟨v0,v1,v2,v3,v4,v5,v6,v7⟩ := eight_cells XV.out
   have HLT := hid hlt
   clear hc ex hob hcs hmx hof tl XV
   go_upto_region 5 with fail
   rw [← hV]
   clear hV
   go_wp2_with (go_at_call 27; with_reducible refine C2.out.mono ?_; rintro e w2 ⟨rfl,h2,k2⟩; have H2 := hid h2; have K2 := hid (KV.out.trans k2); clear h2 k2)
   go_roundw
   case rel => exact ⟨k + 1,by have := HLT.out; omega,by go_num,by rw [ES.out,← List.append_assoc]; exact H2.out,K2.out⟩
   case measure => have := HLT.out; simp [intOf]; omega
  ·have ek : k = en := by omega
   subst ek
   obtain ⟨b1,hb1⟩ : ∃ u,u = a1 ++ obsT os k := ⟨_,rfl⟩
   have b1l : b1.length ≤ 18560000200 := by rw [hb1]; simp; omega
   rw [← hb1] at P1
   have E1 := hid hb1
   clear tl a1l hb1
   go_wp2_with fail
   go_loopw [27] (fun i wr => ∃ (j : Nat),j ≤ xn ∧ i = .int .i64 j ∧ PenAt wr w0.heap.size P (b1 ++ tmsT ts j) false ∧ Wr w0.heap.size P Z wr) (fun i _ => xn - (intOf i).toNat)
   case atStart => exact ⟨0,Nat.zero_le _,rfl,by simpa [tmsT,catTo] using P1.out,W1.out⟩
   case round =>
    obtain ⟨R2,hR2⟩ : ∃ R,R = wr := ⟨_,rfl⟩
    subst hR2
    obtain ⟨j,hj,rfl,hp2,hw2⟩ := hrel
    have P2 := hid hp2
    have W2 := hid hw2
    clear d0 d1 d2 dl hp2 hw2
    have BR2 : Hid (Below w0.heap.size w0 R2) := hid (WZ.out.trans W2.out.bel)
    have tl := tmsT_l HO.out (n := j) (by omega)
    by_cases hjt : j < xn
    ·obtain ⟨b,off,rfl,hbl,hc⟩ := HX.out.2 (by omega)
     obtain ⟨z1,hz1⟩ : ∃ z,z = (ts.getD j (0,0)).1 := ⟨_,rfl⟩
     obtain ⟨z2,hz2⟩ : ∃ z,z = (ts.getD j (0,0)).2 := ⟨_,rfl⟩
     have c0 := (BR2.out.cell (p := ⟨b,off + j * 2,none⟩) hbl).trans (hc j hjt).1
     have c1 := (BR2.out.cell (p := ⟨b,off + j * 2 + 1,none⟩) hbl).trans (hc j hjt).2
     rw [← hz1] at c0
     rw [← hz2] at c1
     obtain ⟨g1,g2⟩ := HO.out.t j (by omega)
     rw [← hz1] at g1
     rw [← hz2] at g2
     have ES : Hid (tmsT ts (j + 1) = tmsT ts j ++ lineT [116,105,109,101,114] [z1,z2]) := hid (by rw [hz1,hz2]; simp [tmsT,catTo,tmT,lineT,numT])
     have hbl' : b < R2.heap.size := Nat.lt_of_lt_of_le hbl BR2.out.size
     obtain ⟨V,hV⟩ : ∃ V,V = R2.alloc (.cells #[.int .i64 z1,.int .i64 z2] 57) := ⟨_,rfl⟩
     have BV := hid (show Below R2.heap.size R2 V by rw [hV]; exact below1 _ _)
     have XV := hid (heap_alloc_new R2 (.cells #[.int .i64 z1,.int .i64 z2] 57))
     rw [← hV] at XV
     have KV : Hid (Wr w0.heap.size P Z V) := hid (W2.out.of ZB.out BV.out)
     have C2 := hid (line2 w0.heap.size P (b1 ++ tmsT ts j) [116,105,109,101,114] z1 z2 V (TZ.out.below KV.out.bel) (P2.out.below BV.out) (by simp; omega) (by decide) (Nat.le_trans ZB.out KV.out.size) g1 g2)
     obtain ⟨v0,v1⟩ := two_cells XV.out
     have HLT := hid hjt
     clear hc hz1 hz2 g1 g2 tl XV
     go_upto_region 10 with fail
     rw [← hV]
     clear hV
     go_wp2_with (go_at_call 26; with_reducible refine C2.out.mono ?_; rintro e w2 ⟨rfl,h2,k2⟩; have H2 := hid h2; have K2 := hid (KV.out.trans k2); clear h2 k2)
     go_roundw
     case rel => exact ⟨j + 1,by have := HLT.out; omega,by go_num,by rw [ES.out,← List.append_assoc]; exact H2.out,K2.out⟩
     case measure => have := HLT.out; simp [intOf]; omega
    ·have ej : j = xn := by omega
     subst ej
     have EZ : Hid (b1 ++ tmsT ts j = sysT sg os ts) := hid (by rw [E1.out,EA.out]; simp [sysT,hel,hxl])
     go_wp2_with fail
     go_end0
     exact ⟨rfl,by rw [← EZ.out]; exact P2.out,KZ.out.trans W2.out⟩
end Go.Proofs.YtkdgkomnbjepdaaGreatDoor
namespace Go.Proofs.YtkdgkomnbjepdaaGreatDoor
open Go.RowKit Go.Sort
set_option linter.unusedVariables false
attribute [local go_sem ↓] Go.wp_at_zero Go.wp_at_succ
def prT (sg : Int) (os : List ObD) (ts : List (Int × Int)) : List UInt8 := if (sysFault sg os ts).1 = 0 then sysT sg os ts else []
theorem own_nilB (w : World) (B : Nat) : w.ownsRow B 5 1 (.slice none 0 0) ([] : List UInt8).length (Lib.byteCells []) := ⟨rfl,.inl ⟨rfl,rfl⟩⟩
theorem pen_new (w : World) (B : Nat) (hB : B ≤ w.heap.size) : PenAt (w.alloc (.cells #[.pointer none,.slice none 0 0,.bool false] 46)) B w.heap.size [] false :=
 .inl ⟨hB,_,heap_alloc_new w _,own_nilB _ _,by simp [Value.ownBlock]⟩
set_option maxRecDepth 100000 in
set_option maxHeartbeats 1600000 in
theorem implPrint_any (sg : Int) (eo xo : Option Addr) (en ec xn xc : Nat) (os : List ObD) (ts : List (Int × Int)) (w : World) (hen : en ≤ 9223372036854775807) (hec : en ≤ ec) (hxn : xn ≤ 9223372036854775807) (hf : FitsObs os) (hv : ∀ i,i < os.length → ∀ j,j < (os.getD i ob0).vals.length → I64 ((os.getD i ob0).vals.getD j 0)) (he : ObsOf w eo en os) (hx : ItemsOf w xo xn ts) (hT : Tabs w w.heap.size) :
  Calls Tryz.prog 5 #[.agg #[.int .i64 sg,.slice eo en ec,.slice xo xn xc]] w fun e w' => e = .returned (tx (prT sg os ts)) ∧ Below w.heap.size w w' := by
 have B0 := below1 w (.cells #[.int .i64 sg,.slice eo en ec,.slice xo xn xc] 26)
 have X0 := hid (heap_alloc_new w (.cells #[.int .i64 sg,.slice eo en ec,.slice xo xn xc] 26))
 have CS := hid (implSystem_any sg eo xo en ec xn xc os ts _ hen hec hxn (he.below B0) (hx.below B0))
 have BB := hid B0
 obtain ⟨f1,h1⟩ : ∃ f,f = (sysFault sg os ts).2.1 := ⟨_,rfl⟩
 obtain ⟨f2,h2⟩ : ∃ f,f = (sysFault sg os ts).2.2 := ⟨_,rfl⟩
 obtain ⟨f0,h00⟩ : ∃ f,f = (sysFault sg os ts).1 := ⟨_,rfl⟩
 rw [← h1,← h2,← h00] at CS
 by_cases h0 : f0 = 0
 ·have hz : (sysFault sg os ts).1 = 0 := by rw [← h00]; exact h0
  subst h0
  have ET : Hid (prT sg os ts = sysT sg os ts) := hid (if_pos hz)
  have HO := hid (sysOK_of hf hv hz)
  have hne : sysT sg os ts ≠ [] := by simp [sysT]
  have HN := hid hne
  have HE := hid he
  have HX := hid hx
  have HT := hid hT
  clear h1 h2 h00 hz hf hv he hx hT B0 hne
  go_enter Tryz.func5,Tryz.ntmps5
  go_upto_region 4 with (go_at_call 10; refine CS.out.mono ?_; rintro e w1 ⟨rfl,hb1⟩; have B1 := hid (BB.out.trans (hb1.mono BB.out.size)); have X1 := hid (block_below X0.out hb1); clear hb1)
  have B2 := hid (B1.out.trans ((below1 w1 (.cells #[.pointer none,.slice none 0 0,.bool false] 46)).mono B1.out.size))
  have X2 := hid (block_below X1.out (below1 w1 (.cells #[.pointer none,.slice none 0 0,.bool false] 46)))
  have P2 := hid (pen_new w1 w.heap.size B1.out.size)
  have C2 := hid (system_pen w w1.heap.size sg eo xo en ec xn xc os ts _ HO.out HE.out HX.out B2.out (HT.out.below B2.out) P2.out)
  have C3 := hid (fun (w3 : World) (h3 : PenAt w3 w.heap.size w1.heap.size (sysT sg os ts) false) => string_pen w.heap.size w1.heap.size (sysT sg os ts) false w3 h3 HN.out)
  obtain ⟨d0,d1,d2⟩ := three_cells X2.out
  go_wp2_with (first
   | (go_at_call 11; with_reducible refine C2.out.mono ?_; rintro e w3 ⟨rfl,h3,k3⟩; have H3 := hid h3; have K3 := hid (B2.out.trans k3.bel); clear h3 k3)
   | (go_at_call 12; with_reducible refine (C3.out w3 H3.out).mono ?_; rintro e w4 ⟨rfl,hb4⟩; have B4 := hid (K3.out.trans hb4); clear hb4))
  go_ret
  exact ⟨by rw [ET.out]; rfl,B4.out⟩
 ·have hz : ¬ (sysFault sg os ts).1 = 0 := by rw [← h00]; exact h0
  have ET : Hid (prT sg os ts = []) := hid (if_neg hz)
  have h0' : (f0 == 0) = false := by simpa using h0
  clear h1 h2 h00 hz hf hv he hx hT B0
  go_enter Tryz.func5,Tryz.ntmps5
  go_wp2_with (go_at_call 10; refine CS.out.mono ?_; rintro e w1 ⟨rfl,hb1⟩; have B1 := hid (BB.out.trans (hb1.mono BB.out.size)); clear hb1)
  go_ret
  exact ⟨by rw [ET.out]; rfl,B1.out⟩
end Go.Proofs.YtkdgkomnbjepdaaGreatDoor

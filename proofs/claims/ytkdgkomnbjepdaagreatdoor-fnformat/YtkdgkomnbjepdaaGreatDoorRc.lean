import Derived.Test.YtkdgkomnbjepdaaGreatDoorLa
import Derived.Test.YtkdgkomnbjepdaaGreatDoorShL
namespace Go.Proofs.YtkdgkomnbjepdaaGreatDoor
open Go.RowKit Go.Sort
set_option linter.unusedVariables false
attribute [local go_sem ↓] Go.wp_at_zero Go.wp_at_succ
structure Tn (S : Nat → Prop) (w w' : World) : Prop where
 os : w'.os = w.os
 tape : w'.tape = w.tape
 output : w'.output = w.output
 size : w.heap.size ≤ w'.heap.size
 block : ∀ b,b < w.heap.size → ¬ S b → w'.heap[b]? = w.heap[b]?
theorem Tn.refl (S : Nat → Prop) (w : World) : Tn S w w := ⟨rfl,rfl,rfl,Nat.le_refl _,fun _ _ _ => rfl⟩
theorem Tn.trans {S : Nat → Prop} {a b c : World} (h : Tn S a b) (k : Tn S b c) : Tn S a c :=
 ⟨k.os.trans h.os,k.tape.trans h.tape,k.output.trans h.output,Nat.le_trans h.size k.size,fun i hi hs => (k.block i (Nat.lt_of_lt_of_le hi h.size) hs).trans (h.block i hi hs)⟩
theorem Tn.mono {S R : Nat → Prop} {a b : World} (h : Tn S a b) (k : ∀ i,i < a.heap.size → S i → R i) : Tn R a b := ⟨h.os,h.tape,h.output,h.size,fun i hi hs => h.block i hi (fun e => hs (k i hi e))⟩
theorem Tn.of_below {S : Nat → Prop} {a b : World} (h : Below a.heap.size a b) : Tn S a b := ⟨h.os,h.tape,h.output,h.size,fun i hs _ => h.block i hs⟩
theorem Tn.set {S : Nat → Prop} {w : World} {b o : Nat} (h : S b) (v : Value) : Tn S w (w.setCell ⟨b,o,none⟩ v) := ⟨rfl,rfl,rfl,by simp,fun i _ hs => Below.heap_setCell _ _ _ _ (fun (e : i = b) => hs (by rw [e]; exact h))⟩
theorem Tn.one {w : World} {F o : Nat} (v : Value) : Tn (· = F) w (w.setCell ⟨F,o,none⟩ v) := Tn.set (S := (· = F)) rfl v
theorem Tn.below {S : Nat → Prop} {B : Nat} {a b : World} (h : Tn S a b) (hB : B ≤ a.heap.size) (hS : ∀ i,S i → B ≤ i) : Below B a b := ⟨h.os,h.tape,h.output,h.size,fun i hi => h.block i (by omega) (fun e => by have := hS i e; omega)⟩
theorem Tn.at {S : Nat → Prop} {a b : World} {i : Nat} {o : Obj} (h : Tn S a b) (hi : a.heap[i]? = some o) (hs : ¬ S i) : b.heap[i]? = some o := (h.block i (lt_of_block hi) hs).trans hi
theorem cell_same {a b : World} {i : Nat} (h : b.heap[i]? = a.heap[i]?) (o : Nat) : b.cell? ⟨i,o,none⟩ = a.cell? ⟨i,o,none⟩ := by
 unfold World.cell?
 simp only []
 rw [h]
theorem StrsOf.tn {S : Nat → Prop} {w w' : World} {ao : Option Addr} {n : Nat} {fs : List (List UInt8)} (h : StrsOf w ao n fs) (ht : Tn S w w') (hs : ∀ b off,0 < n → ao = some ⟨b,off,none⟩ → ¬ S b) : StrsOf w' ao n fs :=
 ⟨h.1,fun hn => by
  obtain ⟨b,off,e,hlt,hc⟩ := h.2 hn
  exact ⟨b,off,e,Nat.lt_of_lt_of_le hlt ht.size,fun i hi => (cell_same (ht.block b hlt (hs b off hn e)) _).trans (hc i hi)⟩⟩
def EC (w : World) (g : Nat) : Prop := ∃ te pe,w.cell? ⟨g,0,none⟩ = some (.iface te pe)
abbrev Pow (w : World) : Prop := Lib.TabIs Tryz.prog w "internal/strconv.uint64pow10" .u64 Lib.pow10Tab
theorem pow_g : Tryz.prog.globalNamed "internal/strconv.uint64pow10" = some 10 := by kernel_rfl
structure Vars (w : World) : Prop where
 field : EC w 7
 few : EC w 9
 many : EC w 6
 place : EC w 4
 key : EC w 3
 syn : EC w 11
 rng : EC w 12
 pow : Pow w
theorem EC.tn {S : Nat → Prop} {w w' : World} {g : Nat} (h : EC w g) (ht : Tn S w w') (hs : ¬ S g) : EC w' g := by
 obtain ⟨te,pe,hc⟩ := h
 exact ⟨te,pe,(cell_same (ht.block g (Lib.lt_of_cell hc) hs) 0).trans hc⟩
theorem Pow.tn {S : Nat → Prop} {w w' : World} (h : Pow w) (ht : Tn S w w') (hs : ¬ S 10) : Pow w' := by
 unfold Pow Lib.TabIs World.var? at *
 rw [pow_g] at h ⊢
 simp only [Option.bind_some] at h ⊢
 by_cases hl : 10 < w.heap.size
 ·rw [ht.block _ hl hs]; exact h
 ·rw [Array.getElem?_eq_none (by omega)] at h; cases h
theorem Vars.tn {S : Nat → Prop} {w w' : World} (h : Vars w) (ht : Tn S w w') (hs : ∀ g,g ≤ 12 → ¬ S g) : Vars w' :=
 ⟨h.field.tn ht (hs _ (by decide)),h.few.tn ht (hs _ (by decide)),h.many.tn ht (hs _ (by decide)),h.place.tn ht (hs _ (by decide)),h.key.tn ht (hs _ (by decide)),h.syn.tn ht (hs _ (by decide)),h.rng.tn ht (hs _ (by decide)),h.pow.tn ht (hs _ (by decide))⟩
theorem Vars.below {B : Nat} {w w' : World} (h : Vars w) (hb : Below B w w') (hB : 12 < B) (hw : B ≤ w.heap.size) : Vars w' :=
 h.tn (S := fun i => B ≤ i) ⟨hb.os,hb.tape,hb.output,hb.size,fun i _ hs => hb.block i (by omega)⟩ (fun g hg => by omega)
def TagS (w : World) (ao : Option Addr) (n : Nat) : Prop := 0 < n → ∃ b off cs fr,ao = some ⟨b,off,none⟩ ∧ w.heap[b]? = some (.cells cs 9 fr)
theorem TagS.tn {S : Nat → Prop} {w w' : World} {ao : Option Addr} {n : Nat} (h : TagS w ao n) (ht : Tn S w w') (hs : ∀ b,S b → ∀ cs fr,w.heap[b]? ≠ some (.cells cs 9 fr)) : TagS w' ao n := fun hn => by
 obtain ⟨b,off,cs,fr,e,hb⟩ := h hn
 exact ⟨b,off,cs,fr,e,ht.at hb (fun e2 => hs b e2 cs fr hb)⟩
theorem TagS.far {S : Nat → Prop} {w : World} {ao : Option Addr} {n : Nat} (h : TagS w ao n) (hs : ∀ b,S b → ∀ cs fr,w.heap[b]? ≠ some (.cells cs 9 fr)) : ∀ b off,0 < n → ao = some ⟨b,off,none⟩ → ¬ S b := by
 rintro b off hn rfl hb
 obtain ⟨b',off',cs,fr,e,hc⟩ := h hn
 simp only [Option.some.injEq,Addr.mk.injEq] at e
 obtain ⟨rfl,_⟩ := e
 exact hs _ hb cs fr hc
theorem TagS.below {w w' : World} {ao : Option Addr} {n : Nat} (h : TagS w ao n) (hb : Below w.heap.size w w') : TagS w' ao n := fun hn => by
 obtain ⟨b,off,cs,fr,e,h2⟩ := h hn
 exact ⟨b,off,cs,fr,e,block_below h2 hb⟩
def FAt (w : World) (F : Nat) (fs : List (List UInt8)) (bad : Bool) : Prop :=
 ∃ ao n c ev,w.heap[F]? = some (.cells #[.slice ao n c,ev] 168 (0,0)) ∧ StrsOf w ao n fs ∧ n ≤ c ∧ (n ≤ 1048576 ∧ TagS w ao n) ∧ ((bad = false ∧ ev = .nilIface) ∨ (bad = true ∧ ∃ te pe,ev = .iface te pe))
theorem two_cc {w : World} {H : Nat} {a b : Value} {t : TypeId} (k : w.heap[H]? = some (.cells #[a,b] t (0,0))) : w.cell? ⟨H,0,none⟩ = some a ∧ w.cell? ⟨H,1,none⟩ = some b ∧ w.frozen? ⟨H,0,none⟩ = false ∧ w.frozen? ⟨H,1,none⟩ = false := by
 simp [World.cell?,World.frozen?,k]
theorem tag_ne {w : World} {F : Nat} {cs : Array Value} {t : TypeId} {fr : Nat × Nat} (h : w.heap[F]? = some (.cells cs t fr)) (ht : t ≠ 9) : ∀ b,b = F → ∀ cs fr,w.heap[b]? ≠ some (.cells cs 9 fr) := by
 rintro b rfl cs' fr' h2
 rw [h] at h2
 simp at h2
 exact ht h2.2.1
theorem FAt.lt {w : World} {F : Nat} {fs : List (List UInt8)} {bad : Bool} (h : FAt w F fs bad) : F < w.heap.size := by
 obtain ⟨_,_,_,_,h,_⟩ := h
 exact lt_of_block h
theorem FAt.below {w w' : World} {F : Nat} {fs : List (List UInt8)} {bad : Bool} (h : FAt w F fs bad) (hb : Below w.heap.size w w') : FAt w' F fs bad := by
 obtain ⟨ao,n,c,ev,h1,h2,h3,h4,h5⟩ := h
 exact ⟨ao,n,c,ev,block_below h1 hb,h2.below hb,h3,⟨h4.1,h4.2.below hb⟩,h5⟩
theorem FAt.tn {S : Nat → Prop} {w w' : World} {F : Nat} {fs : List (List UInt8)} {bad : Bool} (h : FAt w F fs bad) (ht : Tn S w w') (hF : ¬ S F) (hs : ∀ b,S b → ∀ cs fr,w.heap[b]? ≠ some (.cells cs 9 fr)) : FAt w' F fs bad := by
 obtain ⟨ao,n,c,ev,h1,h2,h3,h4,h5⟩ := h
 exact ⟨ao,n,c,ev,ht.at h1 hF,h2.tn ht (h4.2.far hs),h3,⟨h4.1,h4.2.tn ht hs⟩,h5⟩
theorem FAt.setErr {w : World} {F : Nat} {fs : List (List UInt8)} {bad : Bool} (h : FAt w F fs bad) (te : TypeId) (pe : Value) : FAt (w.setCell ⟨F,1,none⟩ (.iface te pe)) F fs true := by
 obtain ⟨ao,n,c,ev,h1,h2,h3,h4,h5⟩ := h
 have hs := tag_ne h1 (by decide)
 exact ⟨ao,n,c,.iface te pe,by rw [heap_setCell_same w F 1 _ _ _ h1]; simp,h2.tn (S := (· = F)) (Tn.one _) (h4.2.far hs),h3,⟨h4.1,h4.2.tn (S := (· = F)) (Tn.one _) hs⟩,.inr ⟨rfl,_,_,rfl⟩⟩
set_option maxRecDepth 100000 in
set_option maxHeartbeats 800000 in
theorem fail_any (F : Nat) (fs : List (List UInt8)) (bad : Bool) (te : TypeId) (pe : Value) (w : World) (h : FAt w F fs bad) :
  Calls Tryz.prog 113 #[.pointer (some ⟨F,0,none⟩),.iface te pe] w fun e w' => e = .returned (.tuple #[]) ∧ FAt w' F fs true ∧ Tn (· = F) w w' := by
 have H := hid h
 obtain ⟨ao,n,c,ev,h1,h2,h3,h4,h5⟩ := h
 obtain ⟨c0,c1,f0,f1⟩ := two_cc h1
 clear h1 h2
 rcases h5 with ⟨rfl,rfl⟩ | ⟨rfl,te',pe',rfl⟩
 ·go_enter Tryz.func113,Tryz.ntmps113
  go_wp2
  go_end0
  exact ⟨rfl,H.out.setErr te pe,Tn.one _⟩
 ·go_enter Tryz.func113,Tryz.ntmps113
  go_wp2
  go_end0
  exact ⟨rfl,H.out,Tn.refl _ _⟩
set_option maxRecDepth 100000 in
set_option maxHeartbeats 800000 in
theorem need_any (F : Nat) (fs : List (List UInt8)) (bad b : Bool) (te : TypeId) (pe : Value) (w : World) (h : FAt w F fs bad) :
  Calls Tryz.prog 84 #[.pointer (some ⟨F,0,none⟩),.bool b,.iface te pe] w fun e w' => e = .returned (.tuple #[]) ∧ FAt w' F fs (bad || !b) ∧ Tn (· = F) w w' := by
 have C := hid (fail_any F fs bad te pe w h)
 cases b with
 | true =>
  have H := hid h
  clear h C
  go_enter Tryz.func84,Tryz.ntmps84
  go_wp2
  go_end0
  exact ⟨rfl,by simpa using H.out,Tn.refl _ _⟩
 | false =>
  clear h
  go_enter Tryz.func84,Tryz.ntmps84
  go_wp2_with (go_at_call 113; with_reducible refine C.out.mono ?_; rintro e w1 ⟨rfl,h1,h2⟩; have H1 := hid h1; have H2 := hid h2; clear h1 h2)
  go_end0
  exact ⟨rfl,by simpa using H1.out,H2.out⟩
set_option maxRecDepth 100000 in
set_option maxHeartbeats 800000 in
theorem next_any (F : Nat) (fs : List (List UInt8)) (bad : Bool) (w : World) (hv : Vars w) (h : FAt w F fs bad) :
  Calls Tryz.prog 115 #[.pointer (some ⟨F,0,none⟩)] w fun e w' => e = .returned (.string ⟨(fs.getD 0 []).toArray⟩) ∧ FAt w' F fs.tail (bad || fs.isEmpty) ∧ Tn (· = F) w w' := by
 have H := hid h
 obtain ⟨te,pe,hf⟩ := hv.few
 have C := hid (fail_any F fs bad te pe w h)
 obtain ⟨ao,n,c,ev,h1,h2,h3,h4,h5⟩ := h
 obtain ⟨c0,c1,f0,f1⟩ := two_cc h1
 cases fs with
 | nil =>
  obtain rfl : n = 0 := h2.1.symm
  clear h1 h2 hv
  go_enter Tryz.func115,Tryz.ntmps115
  go_wp2_with (go_at_call 113; with_reducible refine C.out.mono ?_; rintro e w1 ⟨rfl,h1,h2⟩; have H1 := hid h1; have H2 := hid h2; clear h1 h2)
  go_ret
  exact ⟨rfl,by simpa using H1.out,H2.out⟩
 | cons x r =>
  obtain ⟨m,rfl⟩ : ∃ m,n = m + 1 := ⟨r.length,by have := h2.1; simpa using this.symm⟩
  obtain ⟨b,off,rfl,hbl,hc⟩ := h2.2 (by omega)
  obtain ⟨d0,_,dt⟩ := h2.one
  have hd0 : w.cell? ⟨b,off,none⟩ = some (.string ⟨x.toArray⟩) := d0
  have H1 := hid h1
  have hs := hid (tag_ne h1 (by decide))
  have far := hid (h4.2.far hs.out b off (by omega) rfl)
  have TG : Hid (TagS w (some ⟨b,off + 1,none⟩) m) := hid (fun _ => by
   obtain ⟨b',off',cs,fr,e,hb⟩ := h4.2 (by omega)
   simp only [Option.some.injEq,Addr.mk.injEq] at e
   exact ⟨b,off + 1,cs,fr,rfl,by rw [e.1]; exact hb⟩)
  have H5 := hid h5
  have DT := hid dt
  have H4 := hid h4
  clear h1 h2 hv C d0 dt h5 h4 H
  by_cases hc1 : c = 1
  ·obtain rfl : m = 0 := by omega
   subst hc1
   go_enter Tryz.func115,Tryz.ntmps115
   go_wp2
   go_ret
   refine ⟨rfl,⟨some ⟨b,off,none⟩,0,0,ev,by rw [heap_setCell_same w F 0 _ _ _ H1.out]; simp,?_,by omega,⟨by omega,fun h => by omega⟩,by simpa using H5.out⟩,Tn.one _⟩
   exact (DT.out _ (.inr (by simp))).tn (S := (· = F)) (Tn.one _) (fun b off h => by omega)
  ·have hm : (1 : Int) ≤ (m : Int) + 1 := by omega
   go_enter Tryz.func115,Tryz.ntmps115
   go_wp2
   go_ret
   refine ⟨rfl,⟨some ⟨b,off + 1,none⟩,m,c - 1,ev,by rw [heap_setCell_same w F 0 _ _ _ H1.out]; simp,?_,by omega,⟨by have := H4.out.1; omega,TG.out.tn (S := (· = F)) (Tn.one _) hs.out⟩,by simpa using H5.out⟩,Tn.one _⟩
   exact (DT.out _ (.inl rfl)).tn (S := (· = F)) (Tn.one _) (fun b' off' _ e => by simp only [Option.some.injEq,Addr.mk.injEq] at e; rw [← e.1]; exact far.out)
end Go.Proofs.YtkdgkomnbjepdaaGreatDoor
namespace Go.Proofs.YtkdgkomnbjepdaaGreatDoor
open Go.RowKit Go.Sort
set_option linter.unusedVariables false
attribute [local go_sem ↓] Go.wp_at_zero Go.wp_at_succ
theorem below_grow (w : World) (k : Nat) (os : Array Obj) : Below w.heap.size w (Sort.grow (w.drewN k) os) := by
 have h1 : Below w.heap.size w (w.drewN k) := belowDraws (Below.refl _ _) k
 have h2 : Below w.heap.size (w.drewN k) (Sort.grow (w.drewN k) os) := ⟨rfl,rfl,rfl,by simp [Sort.grow],fun i hi => by
  simp [Sort.grow,Array.getElem?_append]; intro h3; omega⟩
 exact h1.trans h2
theorem itoa_any (z : Int) (h0 : -9223372036854775808 ≤ z) (h1 : z ≤ 9223372036854775807) (w : World) (ht : Pow w) : Calls Tryz.prog 78 #[.int .i64 z] w fun e w' => e = .returned (.string ⟨(Lib.itoa z).toArray⟩) ∧ Below w.heap.size w w' := by
 refine (Tryz.strconv_Itoa z h0 h1 w ht).mono ?_
 rintro e w' ⟨rfl,k,os,rfl⟩
 exact ⟨rfl,below_grow w k os⟩
theorem atoi_any (s : ByteArray) (hs : s.size ≤ 1048576) (w : World) (hv : Vars w) : Calls Tryz.prog 135 #[.string s] w fun e w' => ((∃ v,Lib.atoiAll (bl s) = .ok v ∧ e = .returned (.tuple #[.int .i64 v,.nilIface])) ∨ ((∀ v,Lib.atoiAll (bl s) ≠ .ok v) ∧ ∃ z te pe,e = .returned (.tuple #[.int .i64 z,.iface te pe]))) ∧ Below w.heap.size w w' := by
 match h : Lib.atoiAll (bl s) with
 | .ok v =>
  refine (Tryz.strconv_Atoi_ok s (by omega) v h w).mono ?_
  rintro e w' ⟨rfl,hw⟩
  refine ⟨.inl ⟨v,rfl,rfl⟩,?_⟩
  rcases hw with rfl | ⟨t,rfl⟩
  ·exact Below.refl _ _
  ·exact Lib.bytesWorld_below _ _ _
 | Lib.NumEnd.syntax =>
  obtain ⟨te,pe,hc⟩ := hv.syn
  refine (Tryz.strconv_Atoi_syntax s (by omega) h _ w hc (.inr ⟨_,_,rfl⟩)).mono ?_
  rintro e w' ⟨N,rfl,_,_,hb⟩
  exact ⟨.inr ⟨fun v hv => by (cases hv),_,_,_,rfl⟩,hb⟩
 | Lib.NumEnd.range =>
  obtain ⟨te,pe,hc⟩ := hv.rng
  refine (Tryz.strconv_Atoi_range s (by omega) h _ w hc (.inr ⟨_,_,rfl⟩)).mono ?_
  rintro e w' ⟨N,rfl,_,_,hb⟩
  exact ⟨.inr ⟨fun v hv => by (cases hv),_,_,_,rfl⟩,hb⟩
set_option maxRecDepth 100000 in
set_option maxHeartbeats 800000 in
theorem numberOf_any (s : ByteArray) (hs : s.size ≤ 1048576) (w : World) (hv : Vars w) (hB : 12 < w.heap.size) :
  Calls Tryz.prog 114 #[.string s] w fun e w' => e = .returned (.tuple #[.int .i64 ((num? (bl s)).getD 0),.bool (num? (bl s)).isSome]) ∧ Below w.heap.size w w' := by
 have C := hid (atoi_any s hs w hv)
 have HV := hid hv
 clear hv
 by_cases h : ∃ v,Lib.atoiAll (bl s) = .ok v
 ·obtain ⟨v,h⟩ := h
  have vb := Lib.atoiAll_bounds h
  have C1 : Hid (Calls Tryz.prog 135 #[.string s] w fun e w' => e = .returned (.tuple #[.int .i64 v,.nilIface]) ∧ Below w.heap.size w w') := hid (C.out.mono (by
   rintro e w' ⟨h1 | ⟨h1,_⟩,h2⟩
   ·obtain ⟨v',h3,rfl⟩ := h1
    rw [h] at h3
    injection h3 with h3
    subst h3
    exact ⟨rfl,h2⟩
   ·exact absurd h (h1 v)))
  have C2 := hid (fun W (hW : Below w.heap.size w W) => itoa_any v vb.1 vb.2 W (HV.out.below hW hB (Nat.le_refl _)).pow)
  obtain ⟨t,ht⟩ : ∃ t : ByteArray,t = ⟨(Lib.itoa v).toArray⟩ := ⟨_,rfl⟩
  rw [← ht] at C2
  have TE : Hid ((Lib.itoa v = bl s) ↔ t = s) := hid (by rw [ht]; exact ba_bl.symm)
  have NM : Hid (num? (bl s) = if Lib.itoa v = bl s then some v else none) := hid (by unfold num?; rw [h])
  clear C ht h vb
  by_cases hts : t = s
  ·have Y : Hid (num? (bl s) = some v) := hid (by rw [NM.out,if_pos (TE.out.2 hts)])
   rw [Y.out]
   subst hts
   go_enter Tryz.func114,Tryz.ntmps114
   go_wp2_with (first
    | (go_at_call 135; with_reducible refine C1.out.mono ?_; rintro e w1 ⟨rfl,hb1⟩; have B1 := hid hb1; clear hb1)
    | (go_at_call 78; with_reducible refine (C2.out _ B1.out).mono ?_; rintro e w2 ⟨rfl,hb2⟩; have B2 := hid hb2; clear hb2))
   go_ret2
   exact ⟨rfl,B1.out.trans (B2.out.mono B1.out.size)⟩
  ·have Y : Hid (num? (bl s) = none) := hid (by rw [NM.out,if_neg (fun e => hts (TE.out.1 e))])
   rw [Y.out]
   have hts' := str_ne hts
   have hts2 : ¬ t.toList = s.toList := by simpa using hts'
   clear hts
   go_enter Tryz.func114,Tryz.ntmps114
   go_wp2_with (first
    | (go_at_call 135; with_reducible refine C1.out.mono ?_; rintro e w1 ⟨rfl,hb1⟩; have B1 := hid hb1; clear hb1)
    | (go_at_call 78; with_reducible refine (C2.out _ B1.out).mono ?_; rintro e w2 ⟨rfl,hb2⟩; have B2 := hid hb2; clear hb2))
   go_ret2
   exact ⟨rfl,B1.out.trans (B2.out.mono B1.out.size)⟩
 ·have Y : Hid (num? (bl s) = none) := hid (by
   unfold num?
   split
   ·rename_i v hv; exact absurd ⟨v,hv⟩ h
   ·rfl)
  rw [Y.out]
  have C1 : Hid (Calls Tryz.prog 135 #[.string s] w fun e w' => (∃ z te pe,e = .returned (.tuple #[.int .i64 z,.iface te pe])) ∧ Below w.heap.size w w') := hid (C.out.mono (by
   rintro e w' ⟨⟨v,h1,_⟩ | ⟨_,h1⟩,h2⟩
   ·exact absurd ⟨v,h1⟩ h
   ·exact ⟨h1,h2⟩))
  clear C h
  go_enter Tryz.func114,Tryz.ntmps114
  go_wp2_with (go_at_call 135; with_reducible refine C1.out.mono ?_; rintro e w1 ⟨⟨z,te,pe,rfl⟩,hb1⟩; have B1 := hid hb1; clear hb1)
  go_ret2
  exact ⟨rfl,B1.out⟩
def rdN (fs : List (List UInt8)) : Int := (num? (fs.getD 0 [])).getD 0
def okN (fs : List (List UInt8)) : Bool := (num? (fs.getD 0 [])).isSome
theorem num_nil : num? [] = none := by
 cases h : num? [] with
 | none => rfl
 | some v => have := num_len h; simp at this
theorem okN_nil (fs : List (List UInt8)) (h : fs.isEmpty = true) : okN fs = false := by
 cases fs with
 | nil => unfold okN; simp [num_nil]
 | cons x r => cases h
set_option maxRecDepth 100000 in
set_option maxHeartbeats 800000 in
theorem number_any (F : Nat) (fs : List (List UInt8)) (bad : Bool) (w : World) (hv : Vars w) (hF : 12 < F) (hl : ∀ f ∈ fs,f.length ≤ 1048576) (h : FAt w F fs bad) :
  Calls Tryz.prog 85 #[.pointer (some ⟨F,0,none⟩)] w fun e w' => e = .returned (.int .i64 (rdN fs)) ∧ FAt w' F fs.tail (bad || !okN fs) ∧ Tn (· = F) w w' := by
 have HF := hid h.lt
 have C := hid (next_any F fs bad w hv h)
 have HV := hid hv
 obtain ⟨s,hs⟩ : ∃ s : ByteArray,s = ⟨(fs.getD 0 []).toArray⟩ := ⟨_,rfl⟩
 rw [← hs] at C
 have hbs : fs.getD 0 [] = bl s := ba_bl.1 hs.symm
 have hsz : s.size ≤ 1048576 := by
  rw [← bl_len,← hbs]
  cases fs with
  | nil => simp
  | cons x r => simpa using hl x (by simp)
 have C2 := hid (fun W (hW : Vars W) (hz : 12 < W.heap.size) => numberOf_any s hsz W hW hz)
 rw [← hbs] at C2
 have OE := hid (okN_nil fs)
 have C2' : Hid (∀ W,Vars W → 12 < W.heap.size → Calls Tryz.prog 114 #[.string s] W fun e w' => e = .returned (.tuple #[.int .i64 (rdN fs),.bool (okN fs)]) ∧ Below W.heap.size W w') := hid C2.out
 obtain ⟨z,hz⟩ : ∃ z,z = rdN fs := ⟨_,rfl⟩
 obtain ⟨ok,hok⟩ : ∃ z,z = okN fs := ⟨_,rfl⟩
 rw [← hz] at C2' ⊢
 rw [← hok] at C2' OE ⊢
 have far : Hid (∀ g,g ≤ 12 → ¬ g = F) := hid (fun g hg => by omega)
 obtain ⟨te,pe,hf⟩ := hv.field
 have HFE := hid hf
 clear h hv hs hbs hsz C2 hz hok hf
 go_enter Tryz.func85,Tryz.ntmps85
 go_wp2_with (first
  | (go_at_call 115; with_reducible refine C.out.mono ?_; rintro e w1 ⟨rfl,h1,t1⟩; have H1 := hid h1; have T1 := hid t1; have V1 := hid (HV.out.tn t1 far.out); have Z1 := hid (show 12 < w1.heap.size by have := t1.size; have := HF.out; omega); clear h1 t1)
  | (go_at_call 114; with_reducible refine (C2'.out _ V1.out Z1.out).mono ?_; rintro e w2 ⟨rfl,hb2⟩; have B2 := hid hb2; have H2 := hid (H1.out.below hb2); have hfe2 : w2.cell? ⟨7,0,none⟩ = some (.iface te pe) := (hb2.cell (p := ⟨7,0,none⟩) (show 7 < _ by have := Z1.out; omega)).trans ((cell_same (T1.out.block 7 (Lib.lt_of_cell HFE.out) (far.out _ (by decide))) 0).trans HFE.out); clear hb2)
  | (go_at_call 84; with_reducible refine (need_any F fs.tail _ ok te pe _ H2.out).mono ?_; rintro e w3 ⟨rfl,h3,t3⟩; have H3 := hid h3; have T3 := hid t3; clear h3 t3))
 go_ret
 refine ⟨rfl,?_,(T1.out.trans (Tn.of_below B2.out)).trans T3.out⟩
 have e : (bad || !ok) = ((bad || fs.isEmpty) || !ok) := by
  cases hx : fs.isEmpty with
  | false => simp
  | true => rw [OE.out hx]; simp
 rw [e]
 exact H3.out
end Go.Proofs.YtkdgkomnbjepdaaGreatDoor
namespace Go.Proofs.YtkdgkomnbjepdaaGreatDoor
open Go.RowKit Go.Sort
set_option linter.unusedVariables false
attribute [local go_sem ↓] Go.wp_at_zero Go.wp_at_succ
def ErrV (bad : Bool) (ev : Value) : Prop := (bad = false ∧ ev = .nilIface) ∨ (bad = true ∧ ∃ te pe,ev = .iface te pe)
theorem FAt.drew {w : World} {F : Nat} {fs : List (List UInt8)} {bad : Bool} (h : FAt w F fs bad) : FAt w.drew F fs bad := h.below ((Below.refl _ _).drew)
set_option maxRecDepth 100000 in
set_option maxHeartbeats 800000 in
theorem end_any (F : Nat) (fs : List (List UInt8)) (bad : Bool) (w : World) (hv : Vars w) (hF : 12 < F) (h : FAt w F fs bad) :
  Calls Tryz.prog 83 #[.pointer (some ⟨F,0,none⟩)] w fun e w' => (∃ ev,e = .returned ev ∧ ErrV (bad || !fs.isEmpty) ev) ∧ Tn (· = F) w w' := by
 have H := hid h
 obtain ⟨te,pe,hf⟩ := hv.many
 obtain ⟨ao,n,c,ev,h1,h2,h3,h4,h5⟩ := h
 obtain ⟨c0,c1,f0,f1⟩ := two_cc h1
 have hfl := lt_of_block h1
 have hgl := Lib.lt_of_cell hf
 have hgF : ¬ 6 = F := by omega
 have hn := h2.1
 obtain ⟨b,hb⟩ : ∃ b : Bool,b = fs.isEmpty := ⟨_,rfl⟩
 have hnb : Hid (((n : Int) == 0) = b) := hid (by
  rw [hb]
  cases fs with
  | nil => simp at hn; subst hn; rfl
  | cons x r => simp at hn; subst hn; simp; omega)
 rw [← hb]
 clear h1 h2 hv hb hn
 cases b with
 | true =>
  have hn0 : n = 0 := by have := hnb.out; simpa using this
  subst hn0
  clear hnb
  go_enter Tryz.func83,Tryz.ntmps83
  go_wp2
  go_region_with (go_at_call 84; with_reducible refine (need_any F fs bad true te pe _ H.out.drew).mono ?_; rintro e w3 ⟨rfl,h3,t3⟩; have H3 := hid h3; have T3 := hid t3; clear h3 t3)
  all_goals
   obtain ⟨ao',n',c',ev',k1,k2,k3,k4,k5⟩ := H3.out
   obtain ⟨d0,d1,g0,g1⟩ := two_cc k1
   have K5 : Hid (ErrV (bad || !true) ev') := hid k5
   clear k1 k2 k5
   go_wp2
   go_ret
   exact ⟨⟨_,rfl,K5.out⟩,(Tn.of_below ((Below.refl _ _).drew)).trans T3.out⟩
 | false =>
  have hn0 : ((n : Int) == 0) = false := hnb.out
  clear hnb
  go_enter Tryz.func83,Tryz.ntmps83
  go_wp2
  go_region_with (go_at_call 84; with_reducible refine (need_any F fs bad false te pe _ H.out.drew).mono ?_; rintro e w3 ⟨rfl,h3,t3⟩; have H3 := hid h3; have T3 := hid t3; clear h3 t3)
  all_goals
   obtain ⟨ao',n',c',ev',k1,k2,k3,k4,k5⟩ := H3.out
   obtain ⟨d0,d1,g0,g1⟩ := two_cc k1
   have K5 : Hid (ErrV (bad || !false) ev') := hid k5
   clear k1 k2 k5
   go_wp2
   go_ret
   exact ⟨⟨_,rfl,K5.out⟩,(Tn.of_below ((Below.refl _ _).drew)).trans T3.out⟩
def putAll : Array Value → List Nat → List (List UInt8) → Array Value
 | cs,[],_ => cs
 | cs,o :: os,fs => putAll (cs.setIfInBounds o (.int .i64 (rdN fs))) os fs.tail
def badAll : Bool → List Nat → List (List UInt8) → Bool
 | b,[],_ => b
 | b,_ :: os,fs => badAll (b || !okN fs) os fs.tail
def restAll : List Nat → List (List UInt8) → List (List UInt8)
 | [],fs => fs
 | _ :: os,fs => restAll os fs.tail
theorem drop_cons_nat {os : List Nat} {k : Nat} (h : k < os.length) : os.drop k = os.getD k 0 :: os.drop (k + 1) := by
 rw [List.drop_eq_getElem_cons h]
 simp [List.getD_eq_getElem?_getD,h]
set_option maxRecDepth 100000 in
set_option maxHeartbeats 1600000 in
theorem numbers_any (F P I : Nat) (os : List Nat) (cap : Nat) (cs : Array Value) (t : TypeId) (fs : List (List UInt8)) (bad : Bool) (w : World) (hv : Vars w) (hF : 12 < F) (hI : 12 < I) (hFI : F ≠ I) (hPI : P ≠ I) (hPF : P ≠ F) (hP : P < w.heap.size) (hos : os.length ≤ 100) (hl : ∀ f ∈ fs,f.length ≤ 1048576) (h : FAt w F fs bad)
  (hc : w.heap[I]? = some (.cells cs t (0,0))) (hn : t ≠ 9) (hb : ∀ j,j < os.length → os.getD j 0 < cs.size) (hp : ∀ j,j < os.length → w.cell? ⟨P,j,none⟩ = some (.pointer (some ⟨I,os.getD j 0,none⟩))) :
  Calls Tryz.prog 86 #[.pointer (some ⟨F,0,none⟩),.slice (some ⟨P,0,none⟩) os.length cap] w fun e w' => e = .returned (.tuple #[]) ∧ FAt w' F (restAll os fs) (badAll bad os fs) ∧ w'.heap[I]? = some (.cells (putAll cs os fs) t (0,0)) ∧ Tn (fun b => b = F ∨ b = I) w w' := by
 have HV := hid hv
 have HB := hid hb
 have HP := hid hp
 have H0 := hid h
 have HC := hid hc
 have HN := hid hn
 have HL := hid hl
 clear hv hb hp h hc hn hl
 obtain ⟨N,hN⟩ : ∃ N,N = os.length := ⟨_,rfl⟩
 have hN2 : N ≤ 100 := by omega
 rw [← hN]
 have HNE := hid hN
 clear hN hos
 go_enter Tryz.func86,Tryz.ntmps86
 go_wp2
 go_loopw [8] (fun i wr => ∃ (k : Nat) (cs' : Array Value) (fs' : List (List UInt8)) (bad' : Bool),k ≤ N ∧ i = .int .i64 k ∧ Hid (putAll cs os fs = putAll cs' (os.drop k) fs' ∧ badAll bad os fs = badAll bad' (os.drop k) fs' ∧ restAll os fs = restAll (os.drop k) fs') ∧ Hid (∀ f ∈ fs',f.length ≤ 1048576) ∧ Hid (FAt wr F fs' bad') ∧ Hid (wr.heap[I]? = some (.cells cs' t (0,0)) ∧ True ∧ cs'.size = cs.size) ∧ Hid (Tn (fun b => b = F ∨ b = I) w wr)) (fun i _ => N - (intOf i).toNat)
 case atStart => exact ⟨0,cs,fs,bad,Nat.zero_le _,rfl,hid (by simp),HL,H0,hid ⟨HC.out,trivial,rfl⟩,hid (Tn.refl _ _)⟩
 case round =>
  obtain ⟨k,cs',fs',bad',hk,rfl,hE,hL,hA,hC,hT⟩ := hrel
  by_cases hlt : k < N
  ·have hlt' : (k : Int) < (N : Int) := by omega
   have hko : k < os.length := by rw [← HNE.out]; exact hlt
   have p0 := HP.out k hko
   have hPr : P < wr.heap.size := Nat.lt_of_lt_of_le hP hT.out.size
   have pr : wr.cell? ⟨P,k,none⟩ = some (.pointer (some ⟨I,os.getD k 0,none⟩)) := (cell_same (hT.out.block P hP (fun e => by rcases e with e | e; exact hPF e; exact hPI e)) k).trans p0
   have VR := hid (HV.out.tn hT.out (fun g hg e => by rcases e with e | e <;> omega))
   have C := hid (number_any F fs' bad' wr VR.out hF hL.out hA.out)
   have hob := HB.out k hko
   have E2 := hid (drop_cons_nat hko)
   obtain ⟨o,ho⟩ : ∃ o,o = os.getD k 0 := ⟨_,rfl⟩
   rw [← ho] at pr hob E2
   obtain ⟨z,hz⟩ : ∃ z,z = rdN fs' := ⟨_,rfl⟩
   have HZ := hid hz
   rw [← hz] at C
   clear hz
   have L2 : Hid (∀ f ∈ fs'.tail,f.length ≤ 1048576) := hid (fun f hf => hL.out f (List.mem_of_mem_tail hf))
   obtain ⟨old,hold⟩ : ∃ old,cs'[o]? = some old := ⟨_,Array.getElem?_eq_getElem (by rw [hC.out.2.2]; exact hob)⟩
   have HO := hid hold
   clear ho p0 hold
   go_wp2_with (go_at_call 85; with_reducible refine C.out.mono ?_)
   rintro e w1 ⟨rfl,h1,t1⟩
   have H1 := hid h1
   have T1 := hid t1
   have I1 := hid (t1.at hC.out.1 (fun e => hFI e.symm))
   have ic3 : w1.cell? ⟨I,o,none⟩ = some old := (Lib.cell_of_heap I1.out o).trans HO.out
   have ifz : w1.frozen? ⟨I,o,none⟩ = false := Lib.frozen_of_heap I1.out o
   clear h1 t1
   go_wp2
   go_roundw
   case rel =>
    refine ⟨k + 1,cs'.setIfInBounds o (.int .i64 z),fs'.tail,bad' || !okN fs',hlt,by go_num,hid ?_,L2,hid ?_,hid ⟨heap_setCell_same w1 I o _ _ _ I1.out,trivial,by rw [Array.size_setIfInBounds]; exact hC.out.2.2⟩,hid ?_⟩
    ·have e := hE.out
     rw [E2.out] at e
     rw [HZ.out]
     exact e
    ·exact H1.out.tn (S := (· = I)) (Tn.one _) hFI (tag_ne I1.out HN.out)
    ·exact (hT.out.trans (T1.out.mono (fun i _ h => .inl h))).trans ((Tn.one _).mono (fun i _ h => .inr h))
   case measure => simp [intOf]; omega
  ·have ek : k = N := by omega
   subst ek
   have e := hE.out
   rw [List.drop_of_length_le (by rw [HNE.out]; exact Nat.le_refl _)] at e
   have E3 := hid e
   clear e
   go_wp2
   go_end0
   exact ⟨rfl,by rw [E3.out.2.1,E3.out.2.2]; exact hA.out,by rw [E3.out.1]; exact hC.out.1,hT.out⟩
end Go.Proofs.YtkdgkomnbjepdaaGreatDoor

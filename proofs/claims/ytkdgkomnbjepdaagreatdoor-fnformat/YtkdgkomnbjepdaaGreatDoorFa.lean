import Derived.Test.YtkdgkomnbjepdaaGreatDoorSa
namespace Go.Proofs.YtkdgkomnbjepdaaGreatDoor
open Go.RowKit Go.Sort
set_option linter.unusedVariables false
attribute [local go_sem ↓] Go.wp_at_zero Go.wp_at_succ
set_option maxHeartbeats 400000 in
theorem hInts_same (ao bo : Option Addr) (n c d : Nat) (xs : List Int) (w : World) (hn : n ≤ 1048576) (hx : SliceOf w ao n xs) (hy : SliceOf w bo n xs) :
  Calls Tryz.prog 16 #[.slice ao n c,.slice bo n d] w fun e w' => e = .returned (.bool true) ∧ Below w.heap.size w w' := by
 have HX := hid hx
 have HY := hid hy
 clear hx hy
 go_enter Tryz.func16,Tryz.ntmps16
 go_wp2
 go_loopw [13] (fun i wr => ∃ k : Nat,k ≤ n ∧ i = .int .i64 k ∧ ∃ q,wr = w.drewN q) (fun i _ => n - (intOf i).toNat)
 case atStart => exact ⟨0,Nat.zero_le _,rfl,0,rfl⟩
 case round =>
  obtain ⟨k,hk,rfl,q,rfl⟩ := hrel
  by_cases hlt : k < n
  ·obtain ⟨b,off,rfl,hbl,hc⟩ := HX.out.2 (by omega)
   obtain ⟨b2,off2,rfl,hbl2,hc2⟩ := HY.out.2 (by omega)
   have h1 := hc k hlt
   have h2 := hc2 k hlt
   have hi : (k : Int) < (n : Int) := by omega
   obtain ⟨x,ex⟩ : ∃ x,x = xs.getD k 0 := ⟨_,rfl⟩
   rw [← ex] at h1 h2
   clear ex hc hc2
   go_wp2
   go_quiet (fail)
   go_wp2
   go_roundw
   case rel => exact ⟨k + 1,by omega,by go_num,q + nq,by first | rfl | rw [World.drewN_drewN]⟩
   case measure => simp [intOf]; omega
  ·obtain rfl : k = n := by omega
   go_wp2
   go_ret
   exact ⟨rfl,below_drewN (Below.refl _ _) q⟩
set_option maxHeartbeats 800000 in
theorem hBank_same (ao bo ao' bo' : Option Addr) (n m c d c' d' : Nat) (ks vs : List Int) (w : World) (hn : n ≤ 1048576) (hm : m ≤ 1048576) (hx : SliceOf w ao n ks) (hy : SliceOf w bo m vs) (hx' : SliceOf w ao' n ks) (hy' : SliceOf w bo' m vs) :
  Calls Tryz.prog 15 #[.agg #[.slice ao n c,.slice bo m d],.agg #[.slice ao' n c',.slice bo' m d']] w fun e w' => e = .returned (.bool true) ∧ Below w.heap.size w w' := by
 have HX : Hid (∀ w',Below w.heap.size w w' → SliceOf w' ao n ks ∧ SliceOf w' bo m vs ∧ SliceOf w' ao' n ks ∧ SliceOf w' bo' m vs) := fun w' h => ⟨hx.below h,hy.below h,hx'.below h,hy'.below h⟩
 have b0 := below2 w (.cells #[.slice ao n c,.slice bo m d] 60) (.cells #[.slice ao' n c',.slice bo' m d'] 60)
 have C1 := hid (hInts_same ao ao' n c c' ks _ hn (HX.out _ b0).1 (HX.out _ b0).2.2.1)
 have C2 := hid (fun w' (hb : Below w.heap.size w w') => hInts_same bo bo' m d d' vs w' hm (HX.out _ hb).2.1 (HX.out _ hb).2.2.2)
 have B0 := hid b0
 have n1 := heap_alloc_new w (.cells #[.slice ao n c,.slice bo m d] 60)
 have n2 := heap_alloc_new (w.alloc (.cells #[.slice ao n c,.slice bo m d] 60)) (.cells #[.slice ao' n c',.slice bo' m d'] 60)
 have N1 := hid (block_below n1 (below1 _ (.cells #[.slice ao' n c',.slice bo' m d'] 60)))
 have N2 : Hid (((w.alloc (.cells #[.slice ao n c,.slice bo m d] 60)).alloc (.cells #[.slice ao' n c',.slice bo' m d'] 60)).heap[w.heap.size + 1]? = some (.cells #[.slice ao' n c',.slice bo' m d'] 60 (0,0))) := hid (by simpa using n2)
 clear hx hy hx' hy' b0 n1 n2
 go_enter Tryz.func15,Tryz.ntmps15
 go_wp2_with (first
  | (go_at_call 16; have q := C1.out; with_reducible refine q.mono ?_; clear q; rintro e w1 ⟨rfl,hb⟩; have B1 := hid (B0.out.trans (hb.mono B0.out.size)); obtain ⟨q0,q1,_,_⟩ := pair_cells (block_below N1.out hb); obtain ⟨r0,r1,_,_⟩ := pair_cells (block_below N2.out hb); have q2 := lt_of_block (block_below N1.out hb); have r2 := lt_of_block (block_below N2.out hb); clear hb)
  | (go_at_call 16; have q := C2.out _ B1.out; with_reducible refine q.mono ?_; clear q; rintro e w2 ⟨rfl,hb⟩; have B2 := hid (B1.out.trans (hb.mono B1.out.size)); clear hb))
 go_ret
 exact ⟨rfl,B2.out⟩
end Go.Proofs.YtkdgkomnbjepdaaGreatDoor
namespace Go.Proofs.YtkdgkomnbjepdaaGreatDoor
open Go.RowKit Go.Sort
set_option linter.unusedVariables false
attribute [local go_sem ↓] Go.wp_at_zero Go.wp_at_succ
set_option maxHeartbeats 800000 in
theorem hCode_same (ao bo : Option Addr) (n c d : Nat) (xs : List (Int × Int)) (w : World) (hn : n ≤ 1048576) (hx : ItemsOf w ao n xs) (hy : ItemsOf w bo n xs) :
  Calls Tryz.prog 18 #[.slice ao n c,.slice bo n d] w fun e w' => e = .returned (.bool true) ∧ Below w.heap.size w w' := by
 have HX := hid hx
 have HY := hid hy
 clear hx hy
 go_enter Tryz.func18,Tryz.ntmps18
 go_wp2
 go_loopw [13] (fun i wr => ∃ k : Nat,k ≤ n ∧ i = .int .i64 k ∧ ∃ q,wr = w.drewN q) (fun i _ => n - (intOf i).toNat)
 case atStart => exact ⟨0,Nat.zero_le _,rfl,0,rfl⟩
 case round =>
  obtain ⟨k,hk,rfl,q,rfl⟩ := hrel
  by_cases hlt : k < n
  ·obtain ⟨b,off,rfl,hbl,hc⟩ := HX.out.2 (by omega)
   obtain ⟨b2,off2,rfl,hbl2,hc2⟩ := HY.out.2 (by omega)
   obtain ⟨h1,h3⟩ := hc k hlt
   obtain ⟨h2,h4⟩ := hc2 k hlt
   have hi : (k : Int) < (n : Int) := by omega
   obtain ⟨x,ex⟩ : ∃ x,x = (xs.getD k (0,0)).1 := ⟨_,rfl⟩
   obtain ⟨y,ey⟩ : ∃ y,y = (xs.getD k (0,0)).2 := ⟨_,rfl⟩
   rw [← ex] at h1 h2
   rw [← ey] at h3 h4
   clear ex ey hc hc2
   go_wp2
   go_quiet (fail)
   go_wp2
   go_roundw
   case rel => exact ⟨k + 1,by omega,by go_num,q + nq,by first | rfl | rw [World.drewN_drewN]⟩
   case measure => simp [intOf]; omega
  ·obtain rfl : k = n := by omega
   go_wp2
   go_ret
   exact ⟨rfl,below_drewN (Below.refl _ _) q⟩
set_option maxRecDepth 100000 in
set_option maxHeartbeats 3200000 in
theorem hStms_same (ao bo : Option Addr) (n c d : Nat) (ss : List StmD) (w : World) (hf : Fits ss) (hx : StmsOf w ao n ss) (hy : StmsOf w bo n ss) :
  Calls Tryz.prog 17 #[.slice ao n c,.slice bo n d] w fun e w' => e = .returned (.bool true) ∧ Below w.heap.size w w' := by
 have hn : n ≤ 1048576 := by rw [← hx.1]; exact hf.1
 have HC := hid hf.2
 have HL := hid hx.1
 clear hf
 go_enter Tryz.func17,Tryz.ntmps17
 go_wp2
 go_loopw [13] (fun i wr => ∃ k : Nat,k ≤ n ∧ i = .int .i64 k ∧ Below w.heap.size w wr) (fun i _ => n - (intOf i).toNat)
 case atStart => exact ⟨0,Nat.zero_le _,rfl,Below.refl _ _⟩
 case round =>
  obtain ⟨k,hk,rfl,hb⟩ := hrel
  have HB := hid hb
  by_cases hlt : k < n
  ·obtain ⟨b,off,rfl,hbl,hc⟩ := hx.2 (by omega)
   obtain ⟨b2,off2,rfl,hbl2,hc2⟩ := hy.2 (by omega)
   have hi : (k : Int) < (n : Int) := by omega
   obtain ⟨x1,x2,x3,co,cn,cc,x4,hcn,hit⟩ := hc k hlt
   obtain ⟨y1,y2,y3,do_,dn,dc,y4,hdn,hit2⟩ := hc2 k hlt
   have hdn' : dn = cn := by rw [← hit2.1,hit.1]
   subst hdn'
   have hcn' : dn ≤ 1048576 := by have := HC.out k (by rw [HL.out]; exact hlt); rw [hit.1] at this; exact this
   have j1 : Below w.heap.size w wr := hb
   have k1 := cell_regrown ((hb.cell (p := ⟨b,off + k * 4,none⟩) hbl).trans x1)
   have k2 := cell_regrown ((hb.cell (p := ⟨b,off + k * 4 + 1,none⟩) hbl).trans x2)
   have k3 := cell_regrown ((hb.cell (p := ⟨b,off + k * 4 + 2,none⟩) hbl).trans x3)
   have k4 := cell_regrown ((hb.cell (p := ⟨b,off + k * 4 + 3,none⟩) hbl).trans x4)
   have l1 := cell_regrown ((hb.cell (p := ⟨b2,off2 + k * 4,none⟩) hbl2).trans y1)
   have l2 := cell_regrown ((hb.cell (p := ⟨b2,off2 + k * 4 + 1,none⟩) hbl2).trans y2)
   have l3 := cell_regrown ((hb.cell (p := ⟨b2,off2 + k * 4 + 2,none⟩) hbl2).trans y3)
   have l4 := cell_regrown ((hb.cell (p := ⟨b2,off2 + k * 4 + 3,none⟩) hbl2).trans y4)
   obtain ⟨s,es⟩ : ∃ s,s = ss.getD k stm0 := ⟨_,rfl⟩
   rw [← es] at k1 k2 k3 l1 l2 l3 hit hit2
   have c47 : ∀ d os,Calls Tryz.prog 18 #[.slice co dn cc,.slice do_ dn dc] (grow (redrawn wr d) os) fun e w'' => e = .returned (.bool true) ∧ ∃ p : Regrown,w'' = grow (redrawn wr p.d) p.os :=
    fun d os => Calls.regrown_of (hCode_same co do_ dn cc dc s.code _ hcn' (hit.below (j1.trans ((below_regrown wr d os).mono j1.size))) (hit2.below (j1.trans ((below_regrown wr d os).mono j1.size))))
   obtain ⟨kd,hkd⟩ : ∃ kd,kd = s.kind := ⟨_,rfl⟩
   obtain ⟨av,hav⟩ : ∃ av,av = s.a := ⟨_,rfl⟩
   obtain ⟨bv,hbv⟩ : ∃ bv,bv = s.b := ⟨_,rfl⟩
   rw [← hkd] at k1 l1
   rw [← hav] at k2 l2
   rw [← hbv] at k3 l3
   clear hx hy hc hc2 x1 x2 x3 x4 y1 y2 y3 y4 hit hit2 es j1 hb hkd hav hbv hcn hdn
   go_wp2
   refine wp_region_quiet_below (by kernel_rfl) (by kernel_rfl) ?_
   repeat (any_goals (first | go_big_quiet_step (first | exact c47 _ _) | quiet_step (first | exact c47 _ _)))
   refine wpQuiet_nil ?_
   intro _ hw'
   obtain ⟨⟨dq,osq⟩,hw''⟩ := hw'
   subst hw''
   go_wp2
   go_roundw
   case rel => exact ⟨k + 1,by omega,by go_num,HB.out.trans ((below_regrown wr dq osq).mono HB.out.size)⟩
   case measure => simp [intOf]; omega
  ·have e : k = n := by omega
   subst e
   clear hx hy hb
   go_wp2
   go_ret
   exact ⟨rfl,HB.out⟩
end Go.Proofs.YtkdgkomnbjepdaaGreatDoor

import Derived.Test.YtkkiiffhfjkoaaaGreatDoorPs16
import Derived.Test.YtkkiiffhfjkoaaaGreatDoorPs7
namespace Go.Proofs.YtkkiiffhfjkoaaaGreatDoor
open Go.RowKit Go.Sort
set_option linter.unusedVariables false
attribute [local go_sem ↓] Go.wp_at_zero Go.wp_at_succ

set_option maxRecDepth 100000 in
set_option maxHeartbeats 4000000 in
theorem system_pen (w0 : World) (P : Nat) (sg : Int) (eo xo : Option Addr) (en ec xn xc : Nat) (os : List ObD) (ts : List (Int × Int)) (w : World) (hok : SysOK' sg os ts) (he : ObsOf w0 eo en os) (hx : ItemsOf w0 xo xn ts) (hw : Below w0.heap.size w0 w) (hT : Tabs w w0.heap.size) (hp : PenAt w w0.heap.size P [] false) :
    Calls Tryz.prog 19 #[.pointer (some ⟨P, 0, none⟩), .agg #[.int .i64 sg, .slice eo en ec, .slice xo xn xc]] w fun e w' => e = .returned (.tuple #[]) ∧ PenAt w' w0.heap.size P (sysT sg os ts) false ∧ Wr w0.heap.size P w w' := by
  have HO := hid hok
  have HE := hid he
  have HX := hid hx
  have hel : os.length = en := he.1
  have hxl : ts.length = xn := hx.1
  have hn64 : en ≤ 64 := by rw [← hel]; exact hok.on
  have hx200 : xn ≤ 200 := by rw [← hxl]; exact hok.tn
  have hgl := itoa_l hok.g
  have hB := hw.size
  obtain ⟨hBP, hPl, _, _⟩ := hp.box
  obtain ⟨Z, hZ⟩ : ∃ Z, Z = w.alloc (.cells #[.int .i64 sg, .slice eo en ec, .slice xo xn xc] 31) := ⟨_, rfl⟩
  have BZ := hid (show Below w.heap.size w Z by rw [hZ]; exact below1 _ _)
  have XZ := hid (heap_alloc_new w (.cells #[.int .i64 sg, .slice eo en ec, .slice xo xn xc] 31))
  rw [← hZ] at XZ
  have KZ : Hid (Wr w0.heap.size P w Z) := hid (Wr.of_below hB BZ.out)
  have TZ : Hid (Tabs Z w0.heap.size) := hid (hT.below KZ.out.bel)
  have WZ : Hid (Below w0.heap.size w0 Z) := hid (hw.trans KZ.out.bel)
  have ZB : Hid (w0.heap.size ≤ Z.heap.size) := hid (Nat.le_trans hB KZ.out.size)
  obtain ⟨H0, hH0⟩ : ∃ H, H = w.heap.size := ⟨_, rfl⟩
  have XZ' : Hid (Z.heap[H0]? = some (.cells #[.int .i64 sg, .slice eo en ec, .slice xo xn xc] 31 (0, 0))) := hid (by rw [hH0]; exact XZ.out)
  have PX' : Hid (H0 ≠ P) := hid (by omega)
  obtain ⟨a1, ha1⟩ : ∃ a, a = ([] : List UInt8) ++ lineT [115, 105, 103, 110, 97, 108, 115] [sg] := ⟨_, rfl⟩
  have EA : Hid (a1 = [115, 105, 103, 110, 97, 108, 115, 32] ++ Lib.itoa sg ++ [10]) := hid (by rw [ha1]; simp [lineT, numT, catTo])
  have a1l : a1.length ≤ 100 := by rw [EA.out]; simp; omega
  have C1 := hid (line1 w0.heap.size P [] [115, 105, 103, 110, 97, 108, 115] sg Z TZ.out (hp.below BZ.out) (by simp) (by decide) ZB.out hok.g)
  rw [← ha1] at C1
  obtain ⟨d0, d1, d2⟩ := three_cells XZ'.out
  have dl := lt_of_block XZ'.out
  clear hok he hx hw hT hp hgl hBP hPl ha1 XZ
  go_enter Tryz.func19, Tryz.ntmps19
  go_upto_region 1 with fail
  rw [← hH0, ← hZ]
  clear hH0 hZ
  go_wp2_with (go_at_call 33; with_reducible refine C1.out.mono ?_; rintro e w1 ⟨rfl, h1, k1⟩; have H1 := hid h1; have K1 := hid k1; clear d0 d1 d2; obtain ⟨d0, d1, d2⟩ := three_cells (k1.box XZ'.out PX'.out (by decide)); clear h1 k1)
  go_loopw [16] (fun i wr => ∃ (k : Nat), k ≤ en ∧ i = .int .i64 k ∧ PenAt wr w0.heap.size P (a1 ++ obsT os k) false ∧ Wr w0.heap.size P Z wr) (fun i _ => en - (intOf i).toNat)
  case atStart => exact ⟨0, Nat.zero_le _, rfl, by simpa [obsT, catTo] using H1.out, K1.out⟩
  case round =>
    obtain ⟨R1, hR1⟩ : ∃ R, R = wr := ⟨_, rfl⟩
    subst hR1
    obtain ⟨k, hk, rfl, hp1, hw1⟩ := hrel
    have P1 := hid hp1
    have W1 := hid hw1
    clear d0 d1 d2 dl hp1 hw1
    obtain ⟨d0, d1, d2⟩ := three_cells (W1.out.box XZ'.out PX'.out (by decide))
    have dl := lt_of_block (W1.out.box XZ'.out PX'.out (by decide))
    have BR : Hid (Below w0.heap.size w0 R1) := hid (WZ.out.trans W1.out.bel)
    have tl := obsT_l HO.out (n := k) (by omega)
    by_cases hlt : k < en
    · obtain ⟨b, off, rfl, hbl, hc⟩ := HE.out.2 (by omega)
      obtain ⟨x, ex⟩ : ∃ x, x = os.getD k ob0 := ⟨_, rfl⟩
      have hk8 := hc k hlt
      have hob := HO.out.o k (by omega)
      rw [← ex] at hk8 hob
      obtain ⟨h, hcs, hmx, hof⟩ := hk8
      obtain ⟨k0, k1, k2, k3, k4, k5, k6, k7⟩ := hcs.below hbl BR.out
      have hbl' : b < R1.heap.size := Nat.lt_of_lt_of_le hbl BR.out.size
      have ES : Hid (obsT os (k + 1) = obsT os k ++ obT x) := hid (by rw [ex]; rfl)
      obtain ⟨V, hV⟩ : ∃ V, V = R1.alloc (.cells #[.int .i64 x.prio, .int .i64 x.qcap, .int .i64 x.dcap, .slice h.ko h.kn h.kc, .slice h.vo h.vn h.vc, .slice h.uo h.un h.uc, .slice h.so h.sn h.sc, .slice h.to h.tn h.tc] 47) := ⟨_, rfl⟩
      have BV := hid (show Below R1.heap.size R1 V by rw [hV]; exact below1 _ _)
      have XV := hid (heap_alloc_new R1 (.cells #[.int .i64 x.prio, .int .i64 x.qcap, .int .i64 x.dcap, .slice h.ko h.kn h.kc, .slice h.vo h.vn h.vc, .slice h.uo h.un h.uc, .slice h.so h.sn h.sc, .slice h.to h.tn h.tc] 47))
      rw [← hV] at XV
      have KV : Hid (Wr w0.heap.size P Z V) := hid (W1.out.of ZB.out BV.out)
      have C2 := hid (object_pen w0 P (a1 ++ obsT os k) x h V hob hof (WZ.out.trans KV.out.bel) (TZ.out.below KV.out.bel) (P1.out.below BV.out) (by simp; omega))
      obtain ⟨v0, v1, v2, v3, v4, v5, v6, v7⟩ := eight_cells XV.out
      have HLT := hid hlt
      clear hc ex hob hcs hmx hof tl XV
      go_upto_region 5 with fail
      rw [← hV]
      clear hV
      go_wp2_with (go_at_call 34; with_reducible refine C2.out.mono ?_; rintro e w2 ⟨rfl, h2, k2⟩; have H2 := hid h2; have K2 := hid (KV.out.trans k2); clear h2 k2)
      go_roundw
      case rel => exact ⟨k + 1, by have := HLT.out; omega, by go_num, by rw [ES.out, ← List.append_assoc]; exact H2.out, K2.out⟩
      case measure => have := HLT.out; simp [intOf]; omega
    · have ek : k = en := by omega
      subst ek
      obtain ⟨b1, hb1⟩ : ∃ u, u = a1 ++ obsT os k := ⟨_, rfl⟩
      have b1l : b1.length ≤ 18560000200 := by rw [hb1]; simp; omega
      rw [← hb1] at P1
      have E1 := hid hb1
      clear tl a1l hb1
      go_wp2_with fail
      go_loopw [27] (fun i wr => ∃ (j : Nat), j ≤ xn ∧ i = .int .i64 j ∧ PenAt wr w0.heap.size P (b1 ++ tmsT ts j) false ∧ Wr w0.heap.size P Z wr) (fun i _ => xn - (intOf i).toNat)
      case atStart => exact ⟨0, Nat.zero_le _, rfl, by simpa [tmsT, catTo] using P1.out, W1.out⟩
      case round =>
        obtain ⟨R2, hR2⟩ : ∃ R, R = wr := ⟨_, rfl⟩
        subst hR2
        obtain ⟨j, hj, rfl, hp2, hw2⟩ := hrel
        have P2 := hid hp2
        have W2 := hid hw2
        clear d0 d1 d2 dl hp2 hw2
        have BR2 : Hid (Below w0.heap.size w0 R2) := hid (WZ.out.trans W2.out.bel)
        have tl := tmsT_l HO.out (n := j) (by omega)
        by_cases hjt : j < xn
        · obtain ⟨b, off, rfl, hbl, hc⟩ := HX.out.2 (by omega)
          obtain ⟨z1, hz1⟩ : ∃ z, z = (ts.getD j (0, 0)).1 := ⟨_, rfl⟩
          obtain ⟨z2, hz2⟩ : ∃ z, z = (ts.getD j (0, 0)).2 := ⟨_, rfl⟩
          have c0 := (BR2.out.cell (p := ⟨b, off + j * 2, none⟩) hbl).trans (hc j hjt).1
          have c1 := (BR2.out.cell (p := ⟨b, off + j * 2 + 1, none⟩) hbl).trans (hc j hjt).2
          rw [← hz1] at c0
          rw [← hz2] at c1
          obtain ⟨g1, g2⟩ := HO.out.t j (by omega)
          rw [← hz1] at g1
          rw [← hz2] at g2
          have ES : Hid (tmsT ts (j + 1) = tmsT ts j ++ lineT [116, 105, 109, 101, 114] [z1, z2]) := hid (by rw [hz1, hz2]; simp [tmsT, catTo, tmT, lineT, numT])
          have hbl' : b < R2.heap.size := Nat.lt_of_lt_of_le hbl BR2.out.size
          obtain ⟨V, hV⟩ : ∃ V, V = R2.alloc (.cells #[.int .i64 z1, .int .i64 z2] 59) := ⟨_, rfl⟩
          have BV := hid (show Below R2.heap.size R2 V by rw [hV]; exact below1 _ _)
          have XV := hid (heap_alloc_new R2 (.cells #[.int .i64 z1, .int .i64 z2] 59))
          rw [← hV] at XV
          have KV : Hid (Wr w0.heap.size P Z V) := hid (W2.out.of ZB.out BV.out)
          have C2 := hid (line2 w0.heap.size P (b1 ++ tmsT ts j) [116, 105, 109, 101, 114] z1 z2 V (TZ.out.below KV.out.bel) (P2.out.below BV.out) (by simp; omega) (by decide) (Nat.le_trans ZB.out KV.out.size) g1 g2)
          obtain ⟨v0, v1⟩ := two_cells XV.out
          have HLT := hid hjt
          clear hc hz1 hz2 g1 g2 tl XV
          go_upto_region 10 with fail
          rw [← hV]
          clear hV
          go_wp2_with (go_at_call 33; with_reducible refine C2.out.mono ?_; rintro e w2 ⟨rfl, h2, k2⟩; have H2 := hid h2; have K2 := hid (KV.out.trans k2); clear h2 k2)
          go_roundw
          case rel => exact ⟨j + 1, by have := HLT.out; omega, by go_num, by rw [ES.out, ← List.append_assoc]; exact H2.out, K2.out⟩
          case measure => have := HLT.out; simp [intOf]; omega
        · have ej : j = xn := by omega
          subst ej
          have EZ : Hid (b1 ++ tmsT ts j = sysT sg os ts) := hid (by rw [E1.out, EA.out]; simp [sysT, hel, hxl])
          go_wp2_with fail
          go_end0
          exact ⟨rfl, by rw [← EZ.out]; exact P2.out, KZ.out.trans W2.out⟩
end Go.Proofs.YtkkiiffhfjkoaaaGreatDoor

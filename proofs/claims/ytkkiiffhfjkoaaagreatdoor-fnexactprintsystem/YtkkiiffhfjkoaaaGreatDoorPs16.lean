import Derived.Test.YtkkiiffhfjkoaaaGreatDoorPs15
namespace Go.Proofs.YtkkiiffhfjkoaaaGreatDoor
open Go.RowKit Go.Sort
set_option linter.unusedVariables false
attribute [local go_sem ↓] Go.wp_at_zero Go.wp_at_succ

theorem line1 (B P : Nat) (l wd : List UInt8) (z : Int) (w : World) (hT : Tabs w B) (h : PenAt w B P l false) (hlen : l.length ≤ 10000000000000) (hwd : wd.length ≤ 20) (hB : B ≤ w.heap.size) (hz : I64 z) :
    Calls Tryz.prog 33 #[.pointer (some ⟨P, 0, none⟩), .string ⟨wd.toArray⟩, .slice (some ⟨w.heap.size, 0, none⟩) 1 1] (w.alloc (.cells #[.int .i64 z] 3)) fun e w' => e = .returned (.tuple #[]) ∧ PenAt w' B P (l ++ lineT wd [z]) false ∧ Wr B P w w' :=
  lineN B P l wd [z] w hT h hlen hwd hB (by simp) (fun j hj => by
    have : j = 0 := by simpa using hj
    subst this; exact hz)
theorem line2 (B P : Nat) (l wd : List UInt8) (y z : Int) (w : World) (hT : Tabs w B) (h : PenAt w B P l false) (hlen : l.length ≤ 10000000000000) (hwd : wd.length ≤ 20) (hB : B ≤ w.heap.size) (hy : I64 y) (hz : I64 z) :
    Calls Tryz.prog 33 #[.pointer (some ⟨P, 0, none⟩), .string ⟨wd.toArray⟩, .slice (some ⟨w.heap.size, 0, none⟩) 2 2] (w.alloc (.cells #[.int .i64 y, .int .i64 z] 3)) fun e w' => e = .returned (.tuple #[]) ∧ PenAt w' B P (l ++ lineT wd [y, z]) false ∧ Wr B P w w' :=
  lineN B P l wd [y, z] w hT h hlen hwd hB (by simp) (fun j hj => by
    have : j = 0 ∨ j = 1 := by simp at hj; omega
    rcases this with rfl | rfl
    · exact hy
    · exact hz)
theorem line3 (B P : Nat) (l wd : List UInt8) (x y z : Int) (w : World) (hT : Tabs w B) (h : PenAt w B P l false) (hlen : l.length ≤ 10000000000000) (hwd : wd.length ≤ 20) (hB : B ≤ w.heap.size) (hx : I64 x) (hy : I64 y) (hz : I64 z) :
    Calls Tryz.prog 33 #[.pointer (some ⟨P, 0, none⟩), .string ⟨wd.toArray⟩, .slice (some ⟨w.heap.size, 0, none⟩) 3 3] (w.alloc (.cells #[.int .i64 x, .int .i64 y, .int .i64 z] 3)) fun e w' => e = .returned (.tuple #[]) ∧ PenAt w' B P (l ++ lineT wd [x, y, z]) false ∧ Wr B P w w' :=
  lineN B P l wd [x, y, z] w hT h hlen hwd hB (by simp) (fun j hj => by
    have : j = 0 ∨ j = 1 ∨ j = 2 := by simp at hj; omega
    rcases this with rfl | rfl | rfl
    · exact hx
    · exact hy
    · exact hz)

set_option maxRecDepth 100000 in
set_option maxHeartbeats 4000000 in
theorem object_pen (w0 : World) (P : Nat) (l : List UInt8) (x : ObD) (h : ObS) (w : World) (hok : ObOK x) (hs : ObOf w0 h x) (hw : Below w0.heap.size w0 w) (hT : Tabs w w0.heap.size) (hp : PenAt w w0.heap.size P l false) (hlen : l.length ≤ 1000000000000) :
    Calls Tryz.prog 34 #[.pointer (some ⟨P, 0, none⟩), .agg #[.int .i64 x.prio, .int .i64 x.qcap, .int .i64 x.dcap, .slice h.ko h.kn h.kc, .slice h.vo h.vn h.vc, .slice h.uo h.un h.uc, .slice h.so h.sn h.sc, .slice h.to h.tn h.tc]] w fun e w' => e = .returned (.tuple #[]) ∧ PenAt w' w0.heap.size P (l ++ obT x) false ∧ Wr w0.heap.size P w w' := by
  have OB := hid hok
  have OF := hid hs
  have hkn : h.kn ≤ 32 := by have h1 := hs.hk.1; have h2 := hok.kn; omega
  have hun : h.un ≤ 1048576 := by have h1 := hs.hu.1; have h2 := hok.un; omega
  have hsn : h.sn ≤ 200 := by have h1 := hs.hs.1; have h2 := hok.sn; omega
  have htn : h.tn ≤ 500 := by have h1 := hs.ht.1; have h2 := hok.tn; omega
  obtain ⟨ko, kn, kc, vo, vn, vc, uo, un, uc, so, sn, sc, tt, tn, tc⟩ := h
  obtain ⟨p, qc, dc, ks, vs, us, ss, tr⟩ := x
  obtain ⟨gp, gq, gd⟩ := (⟨hok.p, hok.q, hok.d⟩ : I64 p ∧ I64 qc ∧ I64 dc)
  dsimp only at hkn hun hsn htn ⊢
  have hB := hw.size
  obtain ⟨hBP, hPl, _, _⟩ := hp.box
  have hhl := obHead_l hok
  have hvl0 : ks.length = kn := hs.hk.1
  have hul0 : us.length = un := hs.hu.1
  have hsl0 : ss.length = sn := hs.hs.1
  have htl0 : tr.length = tn := hs.ht.1
  obtain ⟨Z, hZ⟩ : ∃ Z, Z = w.alloc (.cells #[.int .i64 p, .int .i64 qc, .int .i64 dc, .slice ko kn kc, .slice vo vn vc, .slice uo un uc, .slice so sn sc, .slice tt tn tc] 47) := ⟨_, rfl⟩
  have BZ := hid (show Below w.heap.size w Z by rw [hZ]; exact below1 _ _)
  have XZ := hid (heap_alloc_new w (.cells #[.int .i64 p, .int .i64 qc, .int .i64 dc, .slice ko kn kc, .slice vo vn vc, .slice uo un uc, .slice so sn sc, .slice tt tn tc] 47))
  rw [← hZ] at XZ
  have KZ : Hid (Wr w0.heap.size P w Z) := hid (Wr.of_below hB BZ.out)
  have PX : Hid (w.heap.size ≠ P) := hid (by omega)
  have TZ : Hid (Tabs Z w0.heap.size) := hid (hT.below KZ.out.bel)
  have WZ : Hid (Below w0.heap.size w0 Z) := hid (hw.trans KZ.out.bel)
  have ZB : Hid (w0.heap.size ≤ Z.heap.size) := hid (Nat.le_trans hB KZ.out.size)
  obtain ⟨a1, ha1⟩ : ∃ a, a = l ++ lineT [111, 98, 106, 101, 99, 116] [p, qc, dc] := ⟨_, rfl⟩
  have EA : Hid (a1 = l ++ obHead ⟨p, qc, dc, ks, vs, us, ss, tr⟩) := hid (by rw [ha1]; simp [lineT, numT, catTo, obHead])
  have a1l : a1.length ≤ 1000000000100 := by rw [EA.out]; simp only [List.length_append]; omega
  have C1 := hid (line3 w0.heap.size P l [111, 98, 106, 101, 99, 116] p qc dc Z TZ.out (hp.below BZ.out) (by omega) (by decide) ZB.out gp gq gd)
  rw [← ha1] at C1
  obtain ⟨H0, hH0⟩ : ∃ H, H = w.heap.size := ⟨_, rfl⟩
  have XZ' : Hid (Z.heap[H0]? = some (.cells #[.int .i64 p, .int .i64 qc, .int .i64 dc, .slice ko kn kc, .slice vo vn vc, .slice uo un uc, .slice so sn sc, .slice tt tn tc] 47 (0, 0))) := hid (by rw [hH0]; exact XZ.out)
  have PX' : Hid (H0 ≠ P) := hid (by rw [hH0]; exact PX.out)
  obtain ⟨d0, d1, d2, d3, d4, d5, d6, d7⟩ := eight_cells XZ'.out
  have dl := lt_of_block XZ'.out
  clear hok hs hw hT hp hlen gp gq gd hhl hBP hPl ha1 XZ PX
  go_enter Tryz.func34, Tryz.ntmps34
  go_upto_region 1 with fail
  rw [← hH0, ← hZ]
  clear hH0 hZ
  go_wp2_with (go_at_call 33; with_reducible refine C1.out.mono ?_; rintro e w1 ⟨rfl, h1, k1⟩; have H1 := hid h1; have K1 := hid k1; clear d0 d1 d2 d3 d4 d5 d6 d7; obtain ⟨d0, d1, d2, d3, d4, d5, d6, d7⟩ := eight_cells (k1.box XZ'.out PX'.out (by decide)); clear h1 k1)
  go_loopw [25] (fun i wr => ∃ (k : Nat), k ≤ kn ∧ i = .int .i64 k ∧ PenAt wr w0.heap.size P (a1 ++ varsT ks vs k) false ∧ Wr w0.heap.size P Z wr) (fun i _ => kn - (intOf i).toNat)
  case atStart => exact ⟨0, Nat.zero_le _, rfl, by simpa [varsT, catTo] using H1.out, K1.out⟩
  case round =>
    obtain ⟨R1, hR1⟩ : ∃ R, R = wr := ⟨_, rfl⟩
    subst hR1
    obtain ⟨k, hk, rfl, hp1, hw1⟩ := hrel
    have P1 := hid hp1
    have W1 := hid hw1
    clear d0 d1 d2 d3 d4 d5 d6 d7 dl hp1 hw1
    obtain ⟨d0, d1, d2, d3, d4, d5, d6, d7⟩ := eight_cells (W1.out.box XZ'.out PX'.out (by decide))
    have dl := lt_of_block (W1.out.box XZ'.out PX'.out (by decide))
    have BR : Hid (Below w0.heap.size w0 R1) := hid (WZ.out.trans W1.out.bel)
    have tl := varsT_l OB.out (n := k) (by dsimp only; omega)
    dsimp only at tl
    by_cases hlt : k < kn
    · have hvl : vs.length = kn := by rw [← hvl0]; exact OB.out.kl.symm
      have hvn : vn = kn := by rw [← hvl]; exact OF.out.hv.1.symm
      subst hvn
      obtain ⟨kb, ko2, rfl, hkb, hck⟩ := OF.out.hk.2 (by dsimp only; omega)
      obtain ⟨vb, vo2, rfl, hvb, hcv⟩ := OF.out.hv.2 (by dsimp only; omega)
      dsimp only at hkb hck hvb hcv
      obtain ⟨kd, hkd⟩ : ∃ z, z = ks.getD k 0 := ⟨_, rfl⟩
      obtain ⟨vv, hvv⟩ : ∃ z, z = vs.getD k 0 := ⟨_, rfl⟩
      have c0 := (BR.out.cell (p := ⟨kb, ko2 + k, none⟩) hkb).trans (hck k hlt)
      have c1 := (BR.out.cell (p := ⟨vb, vo2 + k, none⟩) hvb).trans (hcv k hlt)
      have r1 := OB.out.k k (by dsimp only; omega)
      have r2 := OB.out.v k (by dsimp only; omega)
      dsimp only at r1 r2
      rw [← hkd] at c0 r1
      rw [← hvv] at c1 r2
      have hkb' : kb < R1.heap.size := Nat.lt_of_lt_of_le hkb BR.out.size
      have hvb' : vb < R1.heap.size := Nat.lt_of_lt_of_le hvb BR.out.size
      have EV : Hid (varsT ks vs (k + 1) = varsT ks vs k ++ varT kd vv) := hid (by rw [hkd, hvv]; rfl)
      have C2 := hid (variable_pen w0.heap.size P (a1 ++ varsT ks vs k) kd vv R1 r1 r2 (TZ.out.below W1.out.bel) P1.out (by simp; omega) (Nat.le_trans ZB.out W1.out.size))
      have HLT := hid hlt
      clear hkd hvv hck hcv r1 r2 tl hvl OB OF
      go_wp2_with (go_at_call 53; with_reducible refine C2.out.mono ?_; rintro e w2 ⟨rfl, h2, k2⟩; have H2 := hid h2; have K2 := hid (W1.out.trans k2); clear h2 k2)
      go_roundw
      case rel => exact ⟨k + 1, by have := HLT.out; omega, by go_num, by rw [EV.out, ← List.append_assoc]; exact H2.out, K2.out⟩
      case measure => have := HLT.out; simp [intOf]; omega
    · have ek : k = kn := by omega
      subst ek
      obtain ⟨b1, hb1⟩ : ∃ u, u = a1 ++ varsT ks vs k := ⟨_, rfl⟩
      have b1l : b1.length ≤ 1000000001100 := by rw [hb1]; simp; omega
      rw [← hb1] at P1
      have E1 := hid hb1
      clear tl a1l hb1
      go_wp2_with fail
      go_loopw [43] (fun i wr => ∃ (m : Nat), m ≤ un ∧ i = .int .i64 m ∧ PenAt wr w0.heap.size P (b1 ++ subsT us m) false ∧ Wr w0.heap.size P Z wr) (fun i _ => un - (intOf i).toNat)
      case atStart => exact ⟨0, Nat.zero_le _, rfl, by simpa [subsT, catTo] using P1.out, W1.out⟩
      case round =>
        obtain ⟨R2, hR2⟩ : ∃ R, R = wr := ⟨_, rfl⟩
        subst hR2
        obtain ⟨m, hm, rfl, hp2, hw2⟩ := hrel
        have P2 := hid hp2
        have W2 := hid hw2
        clear d0 d1 d2 d3 d4 d5 d6 d7 dl hp2 hw2
        obtain ⟨d0, d1, d2, d3, d4, d5, d6, d7⟩ := eight_cells (W2.out.box XZ'.out PX'.out (by decide))
        have dl := lt_of_block (W2.out.box XZ'.out PX'.out (by decide))
        have BR2 : Hid (Below w0.heap.size w0 R2) := hid (WZ.out.trans W2.out.bel)
        have tl := subsT_l OB.out (n := m) (by dsimp only; omega)
        dsimp only at tl
        by_cases hmt : m < un
        · obtain ⟨kb, ko2, rfl, hkb, hck⟩ := OF.out.hu.2 (by dsimp only; omega)
          dsimp only at hkb hck
          obtain ⟨kd, hkd⟩ : ∃ z, z = us.getD m 0 := ⟨_, rfl⟩
          have c0 := (BR2.out.cell (p := ⟨kb, ko2 + m, none⟩) hkb).trans (hck m hmt)
          have r1 := OB.out.u m (by dsimp only; omega)
          dsimp only at r1
          rw [← hkd] at c0 r1
          have hkb' : kb < R2.heap.size := Nat.lt_of_lt_of_le hkb BR2.out.size
          have EV : Hid (subsT us (m + 1) = subsT us m ++ lineT [115, 117, 98] [kd]) := hid (by rw [hkd]; simp [subsT, catTo, subT, lineT, numT])
          have C2 := hid (line1 w0.heap.size P (b1 ++ subsT us m) [115, 117, 98] kd R2 (TZ.out.below W2.out.bel) P2.out (by simp; omega) (by decide) (Nat.le_trans ZB.out W2.out.size) r1)
          have HLT := hid hmt
          clear hkd hck r1 tl OB OF
          go_wp2_with (go_at_call 33; with_reducible refine C2.out.mono ?_; rintro e w2 ⟨rfl, h2, k2⟩; have H2 := hid h2; have K2 := hid (W2.out.trans k2); clear h2 k2)
          go_roundw
          case rel => exact ⟨m + 1, by have := HLT.out; omega, by go_num, by rw [EV.out, ← List.append_assoc]; exact H2.out, K2.out⟩
          case measure => have := HLT.out; simp [intOf]; omega
        · have em : m = un := by omega
          subst em
          obtain ⟨b2, hb2⟩ : ∃ u, u = b1 ++ subsT us m := ⟨_, rfl⟩
          have b2l : b2.length ≤ 1000040001100 := by rw [hb2]; simp; omega
          rw [← hb2] at P2
          have E2 := hid hb2
          clear tl b1l hb2
          go_wp2_with fail
          go_loopw [56] (fun i wr => ∃ (y : Nat), y ≤ sn ∧ i = .int .i64 y ∧ PenAt wr w0.heap.size P (b2 ++ stsT ss y) false ∧ Wr w0.heap.size P Z wr) (fun i _ => sn - (intOf i).toNat)
          case atStart => exact ⟨0, Nat.zero_le _, rfl, by simpa [stsT, catTo] using P2.out, W2.out⟩
          case round =>
            obtain ⟨R3, hR3⟩ : ∃ R, R = wr := ⟨_, rfl⟩
            subst hR3
            obtain ⟨y, hy, rfl, hp3, hw3⟩ := hrel
            have P3 := hid hp3
            have W3 := hid hw3
            clear d0 d1 d2 d3 d4 d5 d6 d7 dl hp3 hw3
            obtain ⟨d0, d1, d2, d3, d4, d5, d6, d7⟩ := eight_cells (W3.out.box XZ'.out PX'.out (by decide))
            have dl := lt_of_block (W3.out.box XZ'.out PX'.out (by decide))
            have BR3 : Hid (Below w0.heap.size w0 R3) := hid (WZ.out.trans W3.out.bel)
            have tl := stsT_l OB.out (n := y) (by dsimp only; omega)
            dsimp only at tl
            by_cases hyt : y < sn
            · obtain ⟨kb, ko2, rfl, hkb, hck⟩ := OF.out.hs.2 (by dsimp only; omega)
              dsimp only at hkb hck
              obtain ⟨x, ex⟩ : ∃ z, z = ss.getD y st0 := ⟨_, rfl⟩
              have hx4 := hck y hyt
              have hst := OB.out.s y (by dsimp only; omega)
              dsimp only at hst
              have EV : Hid (stsT ss (y + 1) = stsT ss y ++ stT x) := hid (by rw [ex]; rfl)
              rw [← ex] at hx4 hst
              have hhl := stHead_l hst
              obtain ⟨pp, ii, en', ex'⟩ := x
              obtain ⟨c0, c1, ⟨eo2, en2, ec2, c2, hen2, hE⟩, ⟨fo2, fn2, fc2, c3, hfn2, hF⟩⟩ := hx4
              obtain ⟨g1, g2, g3, g4⟩ := hst
              dsimp only at c0 c1 hE hF g1 g2 g3 g4
              have c0 := (BR3.out.cell (p := ⟨kb, ko2 + y * 4, none⟩) hkb).trans c0
              have c1 := (BR3.out.cell (p := ⟨kb, ko2 + y * 4 + 1, none⟩) hkb).trans c1
              have c2 := (BR3.out.cell (p := ⟨kb, ko2 + y * 4 + 2, none⟩) hkb).trans c2
              have c3 := (BR3.out.cell (p := ⟨kb, ko2 + y * 4 + 3, none⟩) hkb).trans c3
              have hkb' : kb < R3.heap.size := Nat.lt_of_lt_of_le hkb BR3.out.size
              have nE : en'.length = en2 := hE.1
              have nF : ex'.length = fn2 := hF.1
              have lE := stmsT_l (key := [101, 110, 116, 114, 121]) (by decide) g3 (Nat.le_refl _)
              have lF := stmsT_l (key := [101, 120, 105, 116]) (by decide) g4 (Nat.le_refl _)
              rw [nE] at lE
              rw [nF] at lF
              obtain ⟨V, hV⟩ : ∃ V, V = R3.alloc (.cells #[.int .i64 pp, .int .i64 ii, .slice eo2 en2 ec2, .slice fo2 fn2 fc2] 52) := ⟨_, rfl⟩
              have BV := hid (show Below R3.heap.size R3 V by rw [hV]; exact below1 _ _)
              have XV := hid (heap_alloc_new R3 (.cells #[.int .i64 pp, .int .i64 ii, .slice eo2 en2 ec2, .slice fo2 fn2 fc2] 52))
              rw [← hV] at XV
              have KV : Hid (Wr w0.heap.size P Z V) := hid (W3.out.of ZB.out BV.out)
              obtain ⟨HV, hHV⟩ : ∃ H, H = R3.heap.size := ⟨_, rfl⟩
              have PV : Hid (HV ≠ P) := hid (by have := P3.out.box.2.1; omega)
              have XV' : Hid (V.heap[HV]? = some (.cells #[.int .i64 pp, .int .i64 ii, .slice eo2 en2 ec2, .slice fo2 fn2 fc2] 52 (0, 0))) := hid (by rw [hHV]; exact XV.out)
              obtain ⟨q1, hq1⟩ : ∃ x, x = b2 ++ stsT ss y ++ lineT [115, 116, 97, 116, 101] [pp, ii] := ⟨_, rfl⟩
              have q1l : q1.length ≤ 1000140101100 := by
                have e : lineT [115, 116, 97, 116, 101] [pp, ii] = stHead ⟨pp, ii, en', ex'⟩ := by simp [lineT, numT, catTo, stHead]
                rw [hq1, e]; simp only [List.length_append]; omega
              obtain ⟨q2, hq2⟩ : ∃ x, x = q1 ++ stmsT [101, 110, 116, 114, 121] en' en2 := ⟨_, rfl⟩
              have q2l : q2.length ≤ 1000140401100 := by rw [hq2]; simp only [List.length_append]; omega
              have EE : Hid (q2 ++ stmsT [101, 120, 105, 116] ex' fn2 = b2 ++ stsT ss (y + 1)) := hid (by rw [EV.out, hq2, hq1]; simp [stT, stHead, lineT, numT, catTo, nE, nF])
              have C2 := hid (line2 w0.heap.size P (b2 ++ stsT ss y) [115, 116, 97, 116, 101] pp ii V (TZ.out.below KV.out.bel) (P3.out.below BV.out) (by simp; omega) (by decide) (Nat.le_trans ZB.out KV.out.size) g1 g2)
              have C3 := hid (fun (w1 : World) (k1 : Wr w0.heap.size P Z w1) (h1 : PenAt w1 w0.heap.size P q1 false) => stms_pen w0 P q1 [101, 110, 116, 114, 121] (by decide) eo2 en2 ec2 en' w1 g3 hE (WZ.out.trans k1.bel) (TZ.out.below k1.bel) h1 (by omega))
              have C4 := hid (fun (w1 : World) (k1 : Wr w0.heap.size P Z w1) (h1 : PenAt w1 w0.heap.size P q2 false) => stms_pen w0 P q2 [101, 120, 105, 116] (by decide) fo2 fn2 fc2 ex' w1 g4 hF (WZ.out.trans k1.bel) (TZ.out.below k1.bel) h1 (by omega))
              rw [← hq1] at C2
              rw [← hq2] at C3
              obtain ⟨v0, v1, v2, v3⟩ := four_cells XV'.out
              have HLT := hid hyt
              clear hck ex g1 g2 g3 g4 hE hF lE lF nE nF tl hhl OB OF hq1 hq2 q1l q2l XV
              go_upto_region 15 with fail
              rw [← hHV, ← hV]
              clear hHV hV
              go_wp2_with (first
                | (go_at_call 33; with_reducible refine C2.out.mono ?_; rintro e w1 ⟨rfl, h1, k1⟩; have H1 := hid h1; have K1 := hid (KV.out.trans k1); clear v0 v1 v2 v3; obtain ⟨v0, v1, v2, v3⟩ := four_cells (k1.box XV'.out PV.out (by decide)); have X1 := hid (k1.box XV'.out PV.out (by decide)); clear h1 k1)
                | (go_at_call 54; with_reducible refine (C3.out w1 K1.out H1.out).mono ?_; rintro e w2 ⟨rfl, h2, k2⟩; have H2 := hid h2; have K2 := hid (K1.out.trans k2); clear v0 v1 v2 v3; obtain ⟨v0, v1, v2, v3⟩ := four_cells (k2.box X1.out PV.out (by decide)); clear h2 k2)
                | (go_at_call 54; with_reducible refine (C4.out w2 K2.out H2.out).mono ?_; rintro e w3 ⟨rfl, h3, k3⟩; have H3 := hid h3; have K3 := hid (K2.out.trans k3); clear h3 k3))
              go_roundw
              case rel => exact ⟨y + 1, by have := HLT.out; omega, by go_num, by rw [← EE.out]; exact H3.out, K3.out⟩
              case measure => have := HLT.out; simp [intOf]; omega
            · have ey : y = sn := by omega
              subst ey
              obtain ⟨b3, hb3⟩ : ∃ u, u = b2 ++ stsT ss y := ⟨_, rfl⟩
              have b3l : b3.length ≤ 1000140101100 := by rw [hb3]; simp; omega
              rw [← hb3] at P3
              have E3 := hid hb3
              clear tl b2l hb3
              go_wp2_with fail
              go_loopw [80] (fun i wr => ∃ (z : Nat), z ≤ tn ∧ i = .int .i64 z ∧ PenAt wr w0.heap.size P (b3 ++ trsT tr z) false ∧ Wr w0.heap.size P Z wr) (fun i _ => tn - (intOf i).toNat)
              case atStart => exact ⟨0, Nat.zero_le _, rfl, by simpa [trsT, catTo] using P3.out, W3.out⟩
              case round =>
                obtain ⟨R4, hR4⟩ : ∃ R, R = wr := ⟨_, rfl⟩
                subst hR4
                obtain ⟨z, hz, rfl, hp4, hw4⟩ := hrel
                have P4 := hid hp4
                have W4 := hid hw4
                clear d0 d1 d2 d3 d4 d5 d6 d7 dl hp4 hw4
                obtain ⟨d0, d1, d2, d3, d4, d5, d6, d7⟩ := eight_cells (W4.out.box XZ'.out PX'.out (by decide))
                have dl := lt_of_block (W4.out.box XZ'.out PX'.out (by decide))
                have BR4 : Hid (Below w0.heap.size w0 R4) := hid (WZ.out.trans W4.out.bel)
                have tl := trsT_l OB.out (n := z) (by dsimp only; omega)
                dsimp only at tl
                by_cases hzt : z < tn
                · obtain ⟨kb, ko2, rfl, hkb, hck⟩ := OF.out.ht.2 (by dsimp only; omega)
                  dsimp only at hkb hck
                  obtain ⟨x, ex⟩ : ∃ y, y = tr.getD z tr0 := ⟨_, rfl⟩
                  have hx5 := hck z hzt
                  have htr := OB.out.t z (by dsimp only; omega)
                  dsimp only at htr
                  have EV : Hid (trsT tr (z + 1) = trsT tr z ++ trT x) := hid (by rw [ex]; rfl)
                  rw [← ex] at hx5 htr
                  have hhl := trHead_l htr
                  obtain ⟨c0, c1, ⟨eo2, en2, ec2, c2, hen2, hE⟩, c3, ⟨fo2, fn2, fc2, c4, hfn2, hF⟩⟩ := hx5
                  have c0 := (BR4.out.cell (p := ⟨kb, ko2 + z * 5, none⟩) hkb).trans c0
                  have c1 := (BR4.out.cell (p := ⟨kb, ko2 + z * 5 + 1, none⟩) hkb).trans c1
                  have c2 := (BR4.out.cell (p := ⟨kb, ko2 + z * 5 + 2, none⟩) hkb).trans c2
                  have c3 := (BR4.out.cell (p := ⟨kb, ko2 + z * 5 + 3, none⟩) hkb).trans c3
                  have c4 := (BR4.out.cell (p := ⟨kb, ko2 + z * 5 + 4, none⟩) hkb).trans c4
                  have hkb' : kb < R4.heap.size := Nat.lt_of_lt_of_le hkb BR4.out.size
                  have nF : x.action.length = fn2 := hF.1
                  obtain ⟨V, hV⟩ : ∃ V, V = R4.alloc (.cells #[.int .i64 x.src, .int .i64 x.sig, .slice eo2 en2 ec2, .int .i64 x.target, .slice fo2 fn2 fc2] 56) := ⟨_, rfl⟩
                  have BV := hid (show Below R4.heap.size R4 V by rw [hV]; exact below1 _ _)
                  have XV := hid (heap_alloc_new R4 (.cells #[.int .i64 x.src, .int .i64 x.sig, .slice eo2 en2 ec2, .int .i64 x.target, .slice fo2 fn2 fc2] 56))
                  rw [← hV] at XV
                  have KV : Hid (Wr w0.heap.size P Z V) := hid (W4.out.of ZB.out BV.out)
                  obtain ⟨HV, hHV⟩ : ∃ H, H = R4.heap.size := ⟨_, rfl⟩
                  have PV : Hid (HV ≠ P) := hid (by have := P4.out.box.2.1; omega)
                  have XV' : Hid (V.heap[HV]? = some (.cells #[.int .i64 x.src, .int .i64 x.sig, .slice eo2 en2 ec2, .int .i64 x.target, .slice fo2 fn2 fc2] 56 (0, 0))) := hid (by rw [hHV]; exact XV.out)
                  obtain ⟨q1, hq1⟩ : ∃ y, y = b3 ++ trsT tr z ++ trHead x := ⟨_, rfl⟩
                  have q1l : q1.length ≤ 1000340101100 := by rw [hq1]; simp only [List.length_append]; omega
                  have EE : Hid (q1 ++ stmsT [100, 111] x.action fn2 = b3 ++ trsT tr (z + 1)) := hid (by rw [EV.out, hq1]; simp [trT, nF])
                  have C2 := hid (transition_pen w0 P (b3 ++ trsT tr z) x eo2 fo2 en2 ec2 fn2 fc2 V htr hE (WZ.out.trans KV.out.bel) (TZ.out.below KV.out.bel) (P4.out.below BV.out) (by simp; omega))
                  have C3 := hid (fun (w1 : World) (k1 : Wr w0.heap.size P Z w1) (h1 : PenAt w1 w0.heap.size P q1 false) => stms_pen w0 P q1 [100, 111] (by decide) fo2 fn2 fc2 x.action w1 htr.ac hF (WZ.out.trans k1.bel) (TZ.out.below k1.bel) h1 (by omega))
                  rw [← hq1] at C2
                  obtain ⟨v0, v1, v2, v3, v4⟩ := five_cc XV'.out
                  have HLT := hid hzt
                  clear hck ex htr hE hF nF tl hhl OB OF hq1 q1l XV
                  go_upto_region 22 with fail
                  rw [← hHV, ← hV]
                  clear hHV hV
                  go_wp2_with (first
                    | (go_at_call 55; with_reducible refine C2.out.mono ?_; rintro e w1 ⟨rfl, h1, k1⟩; have H1 := hid h1; have K1 := hid (KV.out.trans k1); clear v0 v1 v2 v3 v4; obtain ⟨v0, v1, v2, v3, v4⟩ := five_cc (k1.box XV'.out PV.out (by decide)); clear h1 k1)
                    | (go_at_call 54; with_reducible refine (C3.out w1 K1.out H1.out).mono ?_; rintro e w2 ⟨rfl, h2, k2⟩; have H2 := hid h2; have K2 := hid (K1.out.trans k2); clear h2 k2))
                  go_roundw
                  case rel => exact ⟨z + 1, by have := HLT.out; omega, by go_num, by rw [← EE.out]; exact H2.out, K2.out⟩
                  case measure => have := HLT.out; simp [intOf]; omega
                · have ez : z = tn := by omega
                  subst ez
                  have EZ : Hid (b3 ++ trsT tr z = l ++ obT ⟨p, qc, dc, ks, vs, us, ss, tr⟩) := hid (by
                    rw [E3.out, E2.out, E1.out, EA.out]
                    simp [obT, hvl0, hul0, hsl0, htl0])
                  go_wp2_with fail
                  go_end0
                  exact ⟨rfl, by rw [← EZ.out]; exact P4.out, KZ.out.trans W4.out⟩
end Go.Proofs.YtkkiiffhfjkoaaaGreatDoor

import Derived.Test.YthaklmdhkkfigaaGreatZc
import Derived.Test.YthaklmdhkkfigaaGreatZ0
import Derived.Deep.RegionHeld3
namespace Go.Proofs.YthaklmdhkkfigaaGreat
open Go.Shelf Go.RowKit Go.Lib Go.Sort Go.MuLone
set_option linter.unusedVariables false
attribute [local go_sem ↓] Go.wp_at_zero Go.wp_at_succ

/-- An actor's twenty-one cells. -/
abbrev acC (i : Nat) (p q d : Int) (ko : Option Addr) (kn kc : Nat) (vo : Option Addr) (vn vc : Nat) (uo : Option Addr) (un uc : Nat) (so : Option Addr) (sn sc : Nat) (tz : Option Addr) (tn tc : Nat) (en : Nat) (sg : Int) (xn nv : Nat) (lf : Int) (B1 B2 Q D T E : Value) : Array Value :=
  #[.int .i64 (i : Int), .int .i64 p, .int .i64 q, .int .i64 d, .slice ko kn kc, .slice vo vn vc, .slice uo un uc, .slice so sn sc, .slice tz tn tc, .int .i64 (en : Int), .int .i64 sg, .int .i64 (xn : Int), .int .i64 (nv : Int), .int .i64 lf, B1, B2, .pointer none, Q, D, T, E]
theorem eight_c {w : World} {H : Nat} {a b c d e f g h : Value} {t : TypeId} (k : w.heap[H]? = some (.cells #[a, b, c, d, e, f, g, h] t (0, 0))) : (w.cell? ⟨H, 0, none⟩ = some a ∧ w.cell? ⟨H, 1, none⟩ = some b ∧ w.cell? ⟨H, 2, none⟩ = some c ∧ w.cell? ⟨H, 3, none⟩ = some d) ∧ w.cell? ⟨H, 4, none⟩ = some e ∧ w.cell? ⟨H, 5, none⟩ = some f ∧ w.cell? ⟨H, 6, none⟩ = some g ∧ w.cell? ⟨H, 7, none⟩ = some h := by simp [World.cell?, k]
theorem Tryz.infoAl : (Tryz.prog.info? 159).map (fun i => (i.zero, i.size, i.bytes)) = some (some (.agg #[.int .i64 0, .int .i64 0, .int .i64 0, .int .i64 0]), 4, 32) := by kernel_rfl
/-- A timer as it stands at the beginning. -/
def alF (ts : List (Int × Int)) (kd : KerD) (j : Nat) : (Int × Int) × Int × Int := (ts.getD j (0, 0), kd.left.getD j 0, kd.every.getD j 0)
def alL (ts : List (Int × Int)) (kd : KerD) (n : Nat) : List ((Int × Int) × Int × Int) := (List.range n).map (alF ts kd)
theorem alL_succ (ts : List (Int × Int)) (kd : KerD) (n : Nat) : alL ts kd (n + 1) = alL ts kd n ++ [alF ts kd n] := by unfold alL; rw [List.range_succ, List.map_append]; rfl
theorem alL_len (ts : List (Int × Int)) (kd : KerD) (n : Nat) : (alL ts kd n).length = n := by simp [alL]
/-- What engineOf makes. -/
structure MadeE2 (w w' : World) (sg : Int) (A R X : Value) (wt : Int) (m : Nat) (cl : List Ac) (d : Array Nat) (es : Array MapEntry) (ct : Nat) (os : List ObD) (kd : KerD) (al : List ((Int × Int) × Int × Int)) : Prop where
  s : EngS w w' (w.heap.size + 1 + 1 + 1) sg A R (.map (some m)) X (.int .u32 0) (.int .u64 0) (.int .u32 0) (.slice (some ⟨w.heap.size + 1 + 1, 0, none⟩) 0 0) wt 0 [] cl os kd al
  perm : PermIn 0 cl.length (Array.range cl.length) d
  sort : SortedIn (ltOf (cfP (pA os cl))) 0 cl.length d
  sub : SubE w' w.heap.size m es ct (rankF (lstA os cl d))
theorem EI.ranked {w w1 w' : World} {S K : Array Value} {sg : Int} {A Xv R : Value} {wt : Int} {m : Nat} {cl : List Ac} {d : Array Nat} {es : Array MapEntry} {ct : Nat} {os : List ObD} {kd : KerD} {al : List ((Int × Int) × Int × Int)} (h : EI w S K sg os kd A Xv wt cl al w1) (hr : Ranked w w1 w' (w.heap.size + 1 + 1 + 1) sg A Xv (.int .u32 0) (.int .u64 0) (.int .u32 0) (.slice (some ⟨w.heap.size + 1 + 1, 0, none⟩) 0 0) wt 0 [] os cl R m d es ct) : MadeE2 w w' sg A R Xv wt m cl d es ct os kd al := by
  have t := hr.tn
  have hK : ∀ (e : TypeId), e ≠ 100 → ∀ b cs, b = w.heap.size + 1 + 1 + 1 → w1.heap[b]? ≠ some (.cells cs e (0, 0)) := by
    rintro e h1 b cs rfl he
    rw [h.eng.o] at he
    simp at he
    exact h1 he.2.symm
  exact ⟨⟨hr.eng, row_tn h.row t (hK _ (by decide)), h.acts.tag h.eng.o (by decide) (by decide) (by decide) t (fun b hb => .inl hb), row_tn h.alr t (hK _ (by decide)), h.bel.trans (t.below h.bel.size (fun i e => by omega))⟩, hr.perm, hr.sort, hr.sub.base h.bel.size⟩
set_option maxRecDepth 100000 in
set_option maxHeartbeats 6400000 in
theorem engineOf_any (sg : Int) (eo xo : Option Addr) (en ec xn xc : Nat) (os : List ObD) (ts : List (Int × Int)) (h : KerS) (kd : KerD) (w : World) (hm : KerMax h) (hf : FitsKer kd) (hfo : FitsObs os) (he : ObsOf w eo en os) (hx : ItemsOf w xo xn ts) (hk : KerOf w h kd) (hyes : kerB sg os ts kd = true) :
    Calls Tryz.prog 40 #[sysV sg eo xo en ec xn xc, kerV h] w fun e w' => ∃ (A R X : Value) (wt : Int) (m : Nat) (cl : List Ac) (d : Array Nat) (es : Array MapEntry) (ct : Nat), e = .returned (.pointer (some ⟨w.heap.size + 1 + 1 + 1, 0, none⟩)) ∧ MadeE2 w w' sg A R X wt m cl d es ct os kd (alL ts kd ts.length) ∧ cl.length = os.length := by
  obtain ⟨lo, ln, lc, vo, vn, vc, qo, qn, qc, po, pn, pc, fo, fn, fc, go, gn, gc⟩ := h
  obtain ⟨KL, ⟨⟨sg1, sg2⟩, ⟨on1, on2⟩, tn1⟩, KQ⟩ := ker_parts hyes
  have HKL := hid KL
  have HKQ := hid KQ
  have HCP := hid (fun i (hi : i < os.length) => ob_caps hyes hi)
  have el : os.length = en := he.1
  have ex : ts.length = xn := hx.1
  have HL := hid el
  have HLX := hid ex
  rw [el] at on1 on2
  rw [ex] at tn1
  have l1 : en = ln := by have x : kd.leaf.length = ln := hk.hl.1; have := KL.1.1; omega
  have l2 : en = vn := by have x : kd.vals.length = vn := hk.hv.1; have := KL.1.2.1; omega
  have l3 : en = qn := by have x : kd.qs.length = qn := hk.hq.1; have := KL.1.2.2.1; omega
  have l4 : en = pn := by have x : kd.ds.length = pn := hk.hp.1; have := KL.1.2.2.2; omega
  have l5 : xn = fn := by have x : kd.left.length = fn := hk.he.1; have := KL.2.1; omega
  have l6 : xn = gn := by have x : kd.every.length = gn := hk.hf.1; have := KL.2.2; omega
  subst l1 l2 l3 l4 l5 l6
  obtain ⟨b, off, rfl, hbl, hc⟩ := he.2 on1
  obtain ⟨lb, loff, hlo, hll, hlc⟩ := hk.hl.2 on1
  obtain ⟨vb, voff, hvo, hvl, hvc⟩ := hk.hv.2 on1
  obtain ⟨qb, qoff, hqo, hql, hqc⟩ := hk.hq.2 on1
  obtain ⟨pb, poff, hpo, hpl, hpc⟩ := hk.hp.2 on1
  dsimp only at hlo hvo hqo hpo
  subst hlo hvo hqo hpo
  unfold kerV sysV
  dsimp only
  have HOB := hid hc
  have HLC := hid hlc
  have HVC := hid hvc
  have HQC := hid hqc
  have HPC := hid hpc
  have HKF := hid (And.intro hk.he hk.hf)
  have HX := hid hx
  have HE := hid he
  have HF := hid hf
  have HFO := hid hfo
  clear hk he hx hc hlc hvc hqc hpc KL KQ el ex hf hfo hyes hm
  go_enter Tryz.func40, Tryz.ntmps40
  go_wp2_with fail
  obtain ⟨Sb, hSb⟩ : ∃ S : Array Value, S = #[.int .i64 sg, .slice (some ⟨b, off, none⟩) en ec, .slice xo xn xc] := ⟨_, rfl⟩
  obtain ⟨Kb, hKb⟩ : ∃ S : Array Value, S = #[.slice (some ⟨lb, loff, none⟩) en lc, .slice (some ⟨vb, voff, none⟩) en vc, .slice (some ⟨qb, qoff, none⟩) en qc, .slice (some ⟨pb, poff, none⟩) en pc, .slice fo xn fc, .slice go xn gc] := ⟨_, rfl⟩
  have HSb := hid hSb
  have HKb := hid hKb
  clear hSb hKb
  go_loopg [6, 7, 8, 19] en (fun mm s6 s7 s8 ix wr => ∃ (i : Nat) (A : Value) (wt : Int) (cl : List Ac), i ≤ en ∧ mm = en - i ∧ ix = .int .i64 i ∧ Hid (cl.length = i) ∧ Hid (EI w Sb Kb sg os kd A (.slice none 0 0) wt cl [] wr))
  case atStart => exact ⟨0, _, _, [], Nat.zero_le _, by omega, rfl, hid rfl, hid (by have h := ei_start w Sb Kb sg os kd; rw [HSb.out, HKb.out] at h ⊢; exact h)⟩
  case round =>
    obtain ⟨i, A, wt, cl, hi, rfl, rfl, HCL, HI⟩ := hrel
    by_cases hlt : i < en
    · have hlt' : (i : Int) < (en : Int) := by omega
      obtain ⟨oh, hcs, hmx, hof⟩ := HOB.out i hlt
      obtain ⟨k0, k1, k2, k3, k4, k5, k6, k7⟩ := hcs.below hbl HI.out.bel
      obtain ⟨ko, kn, kc, vo, vn, vc', uo, un, uc, so, sn, sc, tz, tn, tc⟩ := oh
      dsimp only at k0 k1 k2 k3 k4 k5 k6 k7
      have hio : i < os.length := by rw [HL.out]; exact hlt
      obtain ⟨⟨cq1, cq2⟩, ⟨cd1, cd2⟩⟩ := HCP.out i hio
      obtain ⟨O, hO⟩ : ∃ O, O = os.getD i ob0 := ⟨_, rfl⟩
      rw [← hO] at k0 k1 k2 cq1 cq2 cd1 cd2 hof
      obtain ⟨pv, hpv⟩ : ∃ x, x = O.prio := ⟨_, rfl⟩
      obtain ⟨cq, hcq⟩ : ∃ x : Nat, x = O.qcap.toNat := ⟨_, rfl⟩
      obtain ⟨cd, hcd⟩ : ∃ x : Nat, x = O.dcap.toNat := ⟨_, rfl⟩
      rw [show O.qcap = (cq : Int) by omega] at k1
      rw [show O.dcap = (cd : Int) by omega] at k2
      rw [← hpv] at k0
      have cq3 : cq ≤ 1000 := by omega
      have cd3 : cd ≤ 1000 := by omega
      have ZO := hid hO
      have ZP := hid hpv
      have ZQ := hid (And.intro hcq hcd)
      have ZF := hid hof
      obtain ⟨nv, hnv⟩ : ∃ x, x = O.vals.length := ⟨_, rfl⟩
      have CL := hid (fun W (hW : Below w.heap.size w W) => limitsOf_any sg (some ⟨b, off, none⟩) xo en ec xn xc os i W hlt on2 tn1 (HE.out.below hW))
      rw [← hO, ← hnv] at CL
      obtain ⟨lf, hlf⟩ : ∃ x, x = kd.leaf.getD i 0 := ⟨_, rfl⟩
      obtain ⟨ao, an, ac, va0, han, hav⟩ := HVC.out i hlt
      obtain ⟨bo, bn, bc, qa0, hbn, hbv⟩ := HQC.out i hlt
      obtain ⟨co, cn, cc, pa0, hcn, hcv⟩ := HPC.out i hlt
      have HAV := hid hav
      have HQA := hid qa0
      have HBV := hid hbv
      have HCV := hid hcv
      have c5 := HLC.out i hlt
      rw [← hlf] at c5
      have ZL := hid hlf
      clear hO hpv hcq hcd hof hnv hlf cq1 cq2 cd1 cd2 hcs hmx
      obtain ⟨y0, y1, y2⟩ := three_cells (show wr.heap[w.heap.size]? = some (.cells #[.int .i64 sg, .slice (some ⟨b, off, none⟩) en ec, .slice xo xn xc] 42 (0, 0)) by rw [← HSb.out]; exact HI.out.sb)
      go_upto_region 5 with fail
      obtain ⟨W1, hW1⟩ : ∃ W, W = wr.alloc (.cells #[.int .i64 pv, .int .i64 (cq : Int), .int .i64 (cd : Int), .slice ko kn kc, .slice vo vn vc', .slice uo un uc, .slice so sn sc, .slice tz tn tc] 134) := ⟨_, rfl⟩
      have B1 : Below wr.heap.size wr W1 := by rw [hW1]; exact below1 _ _
      have BO : W1.heap[wr.heap.size]? = some (.cells #[.int .i64 pv, .int .i64 (cq : Int), .int .i64 (cd : Int), .slice ko kn kc, .slice vo vn vc', .slice uo un uc, .slice so sn sc, .slice tz tn tc] 134 (0, 0)) := by rw [hW1]; exact heap_alloc_new _ _
      rw [← hW1]
      have HB1 := hid B1
      have HBO := hid BO
      obtain ⟨oB, hoB⟩ : ∃ x, x = wr.heap.size := ⟨_, rfl⟩
      rw [← hoB] at HBO ⊢
      have HoB := hid hoB
      -- what the round reads, in every world above W1
      have RD : Hid (∀ Y, Below W1.heap.size W1 Y → (((Y.cell? ⟨oB, 0, none⟩ = some (.int .i64 pv) ∧ Y.cell? ⟨oB, 1, none⟩ = some (.int .i64 (cq : Int)) ∧ Y.cell? ⟨oB, 2, none⟩ = some (.int .i64 (cd : Int)) ∧ Y.cell? ⟨oB, 3, none⟩ = some (.slice ko kn kc)) ∧ Y.cell? ⟨oB, 4, none⟩ = some (.slice vo vn vc') ∧ Y.cell? ⟨oB, 5, none⟩ = some (.slice uo un uc) ∧ Y.cell? ⟨oB, 6, none⟩ = some (.slice so sn sc) ∧ Y.cell? ⟨oB, 7, none⟩ = some (.slice tz tn tc)) ∧ (Y.cell? ⟨w.heap.size, 0, none⟩ = some (.int .i64 sg) ∧ Y.cell? ⟨w.heap.size, 1, none⟩ = some (.slice (some ⟨b, off, none⟩) en ec) ∧ Y.cell? ⟨w.heap.size, 2, none⟩ = some (.slice xo xn xc)) ∧ (Y.cell? ⟨w.heap.size + 1, 0, none⟩ = some (.slice (some ⟨lb, loff, none⟩) en lc) ∧ Y.cell? ⟨w.heap.size + 1, 1, none⟩ = some (.slice (some ⟨vb, voff, none⟩) en vc) ∧ Y.cell? ⟨w.heap.size + 1, 2, none⟩ = some (.slice (some ⟨qb, qoff, none⟩) en qc) ∧ Y.cell? ⟨w.heap.size + 1, 3, none⟩ = some (.slice (some ⟨pb, poff, none⟩) en pc) ∧ Y.cell? ⟨w.heap.size + 1, 4, none⟩ = some (.slice fo xn fc) ∧ Y.cell? ⟨w.heap.size + 1, 5, none⟩ = some (.slice go xn gc)) ∧ (Y.cell? ⟨lb, loff + i, none⟩ = some (.int .i64 lf) ∧ Y.cell? ⟨vb, voff + i, none⟩ = some (.slice ao an ac) ∧ Y.cell? ⟨qb, qoff + i, none⟩ = some (.slice bo bn bc) ∧ Y.cell? ⟨pb, poff + i, none⟩ = some (.slice co cn cc)))) := hid (fun Y hY => by
        have hE := (HI.out.below HB1.out).below' hY
        refine ⟨eight_c (block_below HBO.out hY), three_cells (t := 42) ?_, six_cells (t := 35) ?_, ?_, ?_, ?_, ?_⟩
        · have := hE.2.1; rw [HSb.out] at this; exact this
        · have := hE.2.2; rw [HKb.out] at this; exact this
        · exact (hE.1.cell (p := ⟨lb, loff + i, none⟩) hll).trans c5
        · exact (hE.1.cell (p := ⟨vb, voff + i, none⟩) hvl).trans va0
        · exact (hE.1.cell (p := ⟨qb, qoff + i, none⟩) hql).trans qa0
        · exact (hE.1.cell (p := ⟨pb, poff + i, none⟩) hpl).trans pa0)
      obtain ⟨⟨⟨o0, o1, o2, o3⟩, o4, o5, o6, o7⟩, ⟨s0, s1, s2⟩, ⟨q0, q1, q2, q3, q4, q5⟩, ⟨r0, r1, r2, r3⟩⟩ := RD.out W1 (Below.refl _ _)
      have CL1 := hid (CL.out W1.drew ((HI.out.below HB1.out).bel.drew))
      clear hW1 B1 BO hoB k0 k1 k2 k3 k4 k5 k6 k7 y0 y1 y2 c5 CL va0 qa0 pa0 han hbn hcn hav hbv hcv
      have hol := lt_of_block HBO.out
      go_region_held3 (fun Y => (((Y.cell? ⟨oB, 0, none⟩ = some (.int .i64 pv) ∧ Y.cell? ⟨oB, 1, none⟩ = some (.int .i64 (cq : Int)) ∧ Y.cell? ⟨oB, 2, none⟩ = some (.int .i64 (cd : Int)) ∧ Y.cell? ⟨oB, 3, none⟩ = some (.slice ko kn kc)) ∧ Y.cell? ⟨oB, 4, none⟩ = some (.slice vo vn vc') ∧ Y.cell? ⟨oB, 5, none⟩ = some (.slice uo un uc) ∧ Y.cell? ⟨oB, 6, none⟩ = some (.slice so sn sc) ∧ Y.cell? ⟨oB, 7, none⟩ = some (.slice tz tn tc)) ∧ (Y.cell? ⟨w.heap.size, 0, none⟩ = some (.int .i64 sg) ∧ Y.cell? ⟨w.heap.size, 1, none⟩ = some (.slice (some ⟨b, off, none⟩) en ec) ∧ Y.cell? ⟨w.heap.size, 2, none⟩ = some (.slice xo xn xc)) ∧ (Y.cell? ⟨w.heap.size + 1, 0, none⟩ = some (.slice (some ⟨lb, loff, none⟩) en lc) ∧ Y.cell? ⟨w.heap.size + 1, 1, none⟩ = some (.slice (some ⟨vb, voff, none⟩) en vc) ∧ Y.cell? ⟨w.heap.size + 1, 2, none⟩ = some (.slice (some ⟨qb, qoff, none⟩) en qc) ∧ Y.cell? ⟨w.heap.size + 1, 3, none⟩ = some (.slice (some ⟨pb, poff, none⟩) en pc) ∧ Y.cell? ⟨w.heap.size + 1, 4, none⟩ = some (.slice fo xn fc) ∧ Y.cell? ⟨w.heap.size + 1, 5, none⟩ = some (.slice go xn gc)) ∧ (Y.cell? ⟨lb, loff + i, none⟩ = some (.int .i64 lf) ∧ Y.cell? ⟨vb, voff + i, none⟩ = some (.slice ao an ac) ∧ Y.cell? ⟨qb, qoff + i, none⟩ = some (.slice bo bn bc) ∧ Y.cell? ⟨pb, poff + i, none⟩ = some (.slice co cn cc)))) (first | (with_reducible exact SZ.out _) | (with_reducible exact SX.out) | go_keep)
        (first | (go_at_call 72; with_reducible refine CL1.out.mono ?_; rintro e w2 ⟨rfl, hb2⟩; have hb3 := undrewK hb2; have B2 := hid hb3; have SX := hid (RD.out w2 hb3); have SZ := hid (fun o => RD.out (w2.alloc o) (hb3.trans ((below1 w2 o).mono hb3.size))); clear hb2 hb3))
      clear SX SZ CL1 o0 o1 o2 o3 o4 o5 o6 o7 s0 s1 s2 q0 q1 q2 q3 q4 q5 r0 r1 r2 r3
      obtain ⟨W3, hW3⟩ : ∃ W, W = w2.alloc (.cells (acC i pv cq cd ko kn kc vo vn vc' uo un uc so sn sc tz tn tc en sg xn nv lf (.slice none 0 0) (.slice none 0 0) (.pointer none) (.pointer none) (.chan none) (.chan none)) 155) := ⟨_, rfl⟩
      obtain ⟨aB, haB⟩ : ∃ a, a = w2.heap.size := ⟨_, rfl⟩
      have A3 : Hid (W3.heap[aB]? = some (.cells (acC i pv cq cd ko kn kc vo vn vc' uo un uc so sn sc tz tn tc en sg xn nv lf (.slice none 0 0) (.slice none 0 0) (.pointer none) (.pointer none) (.chan none) (.chan none)) 155 (0, 0))) := hid (by rw [hW3, haB]; exact heap_alloc_new _ _)
      have B3 : Hid (Below W1.heap.size W1 W3) := hid (by rw [hW3]; exact B2.out.alloc B2.out.size _)
      have gaB : W1.heap.size ≤ aB := by rw [haB]; exact B2.out.size
      unfold acC at hW3
      rw [← hW3, ← haB]
      clear hW3 haB B2
      have naO : ¬ aB = oB := by omega
      have nOa : ¬ oB = aB := by omega
      have hHw : w.heap.size + 1 + 1 + 1 < W1.heap.size := by have := lt_of_block (HI.out.below HB1.out).eng.o; omega
      have na1 : ¬ aB = w.heap.size + 1 := by omega
      have n1a : ¬ w.heap.size + 1 = aB := by omega
      have nav : ¬ aB = vb := by omega
      have nva : ¬ vb = aB := by omega
      obtain ⟨⟨⟨o0, o1, o2, o3⟩, _, _, _, _⟩, _, ⟨q0, q1, q2, q3, _, _⟩, ⟨_, r1, r2, r3⟩⟩ := RD.out W3 B3.out
      have hal := lt_of_block A3.out
      have f14 := froz A3.out 14
      have f15 := froz A3.out 15
      have a14 : W3.cell? ⟨aB, 14, none⟩ = some (.slice none 0 0) := by simp [World.cell?, A3.out]
      have a15 : W3.cell? ⟨aB, 15, none⟩ = some (.slice none 0 0) := by simp [World.cell?, A3.out]
      go_wp2_with fail
      go_region_held3 (fun Y => Y.cell? ⟨oB, 3, none⟩ = some (.slice ko kn kc) ∧ Y.cell? ⟨w.heap.size + 1, 1, none⟩ = some (.slice (some ⟨vb, voff, none⟩) en vc) ∧ Y.cell? ⟨vb, voff + i, none⟩ = some (.slice ao an ac)) (go_keep)
        (fail)
      obtain ⟨W5, hW5⟩ : ∃ W, W = ((W3.setCell ⟨aB, 14, none⟩ (.slice ko kn kc)).setCell ⟨aB, 15, none⟩ (.slice ao an ac)).drew := ⟨_, rfl⟩
      have A5 : Hid (W5.heap[aB]? = some (.cells (acC i pv cq cd ko kn kc vo vn vc' uo un uc so sn sc tz tn tc en sg xn nv lf (.slice ko kn kc) (.slice ao an ac) (.pointer none) (.pointer none) (.chan none) (.chan none)) 155 (0, 0))) := hid (by rw [hW5]; show ((W3.setCell ⟨aB, 14, none⟩ (.slice ko kn kc)).setCell ⟨aB, 15, none⟩ (.slice ao an ac)).heap[aB]? = _; rw [heap_setCell_same _ aB 15 _ _ _ (heap_setCell_same W3 aB 14 _ _ _ A3.out)]; rfl)
      have B5 : Hid (Below W1.heap.size W1 W5) := hid (by rw [hW5]; exact (below_set (below_set B3.out gaB) gaB).drew)
      rw [← hW5]
      clear hW5 A3 B3 o0 o1 o2 o3 q0 q1 q2 q3 r1 r2 r3 a14 a15 f14 f15 hal
      obtain ⟨⟨⟨o0, o1, o2, o3⟩, _, _, _, _⟩, _, ⟨q0, q1, q2, q3, _, _⟩, ⟨_, r1, r2, r3⟩⟩ := RD.out W5 B5.out
      have hal := lt_of_block A5.out
      obtain ⟨qe, hqe⟩ : ∃ x, x = kd.qs.getD i [] := ⟨_, rfl⟩
      obtain ⟨de, hde⟩ : ∃ x, x = kd.ds.getD i [] := ⟨_, rfl⟩
      have ZE := hid (And.intro hqe hde)
      have hbq : bn ≤ cq := by have h1 := (HKQ.out i hio).1; have h2 := HBV.out.1; have h3 := ZQ.out.1; rw [← ZO.out, ← h3] at h1; omega
      have hcq2 : cn ≤ cd := by have h1 := (HKQ.out i hio).2; have h2 := HCV.out.1; have h3 := ZQ.out.2; rw [← ZO.out, ← h3] at h1; omega
      have BW1 : Hid (Below w.heap.size w W1) := hid (HI.out.below HB1.out).bel
      have CQ := hid (ringOf_ex cq bo bn bc qe W5.drew cq3 hbq (by rw [hqe]; exact HBV.out.below ((BW1.out.trans (B5.out.mono BW1.out.size)).drew)))
      have CD := hid (fun Y (hY : Below W1.heap.size W1 Y) => ringOf_ex cd co cn cc de Y cd3 hcq2 (by rw [hde]; exact HCV.out.below (BW1.out.trans (hY.mono BW1.out.size))))
      clear hqe hde
      have naq : ¬ aB = qb := by omega
      have nap : ¬ aB = pb := by omega
      go_wp2_with fail
      go_region_held3 (fun Y => (Y.cell? ⟨oB, 1, none⟩ = some (.int .i64 (cq : Int)) ∧ Y.cell? ⟨oB, 2, none⟩ = some (.int .i64 (cd : Int))) ∧ (Y.cell? ⟨w.heap.size + 1, 2, none⟩ = some (.slice (some ⟨qb, qoff, none⟩) en qc) ∧ Y.cell? ⟨w.heap.size + 1, 3, none⟩ = some (.slice (some ⟨pb, poff, none⟩) en pc)) ∧ Y.cell? ⟨qb, qoff + i, none⟩ = some (.slice bo bn bc) ∧ Y.cell? ⟨pb, poff + i, none⟩ = some (.slice co cn cc)) (first | (with_reducible exact SY.out) | (with_reducible exact SX.out) | go_keep)
        (first
          | (go_at_call_of 73 (Value.slice bo bn bc); with_reducible refine CQ.out.mono ?_; rintro e wq ⟨P, Sq, rfl, hr, hb2, hps⟩; have hb3 := undrewK hb2; have BQ := hid hb3; have RQ := hid hr; have PQ := hid hps; have BQ1 := hid (B5.out.trans (hb3.mono B5.out.size)); have SX0 := RD.out wq BQ1.out; have SX := hid (And.intro (And.intro SX0.1.1.2.1 SX0.1.1.2.2.1) (And.intro (And.intro SX0.2.2.1.2.2.1 SX0.2.2.1.2.2.2.1) (And.intro SX0.2.2.2.2.2.1 SX0.2.2.2.2.2.2))); have CD1 := hid (CD.out wq BQ1.out); clear hb2 hb3 hr hps SX0)
          | (go_at_call_of 73 (Value.slice co cn cc); with_reducible refine CD1.out.mono ?_; rintro e wd ⟨P', Sd, rfl, hr, hb2, hps⟩; have BD := hid hb2; have RDD := hid hr; have PD := hid hps; have BD1 := hid (BQ1.out.trans (hb2.mono BQ1.out.size)); have SX0 := RD.out wd BD1.out; have SY := hid (And.intro (And.intro SX0.1.1.2.1 SX0.1.1.2.2.1) (And.intro (And.intro SX0.2.2.1.2.2.1 SX0.2.2.1.2.2.2.1) (And.intro SX0.2.2.2.2.2.1 SX0.2.2.2.2.2.2))); have AD := hid (block_below (block_below A5.out BQ.out) hb2); have hald := lt_of_block AD.out; have f17 := froz AD.out 17; have f18 := froz AD.out 18; have a17 : wd.cell? ⟨aB, 17, none⟩ = some (.pointer none) := (by simp [World.cell?, AD.out]); have a18 : wd.cell? ⟨aB, 18, none⟩ = some (.pointer none) := (by simp [World.cell?, AD.out]); clear hb2 hr hps SX0))
      obtain ⟨W7, hW7⟩ : ∃ W, W = (wd.setCell ⟨aB, 17, none⟩ (.pointer (some ⟨P, 0, none⟩))).setCell ⟨aB, 18, none⟩ (.pointer (some ⟨P', 0, none⟩)) := ⟨_, rfl⟩
      have A7 : W7.heap[aB]? = some (.cells (acC i pv cq cd ko kn kc vo vn vc' uo un uc so sn sc tz tn tc en sg xn nv lf (.slice ko kn kc) (.slice ao an ac) (.pointer (some ⟨P, 0, none⟩)) (.pointer (some ⟨P', 0, none⟩)) (.chan none) (.chan none)) 155 (0, 0)) := by rw [hW7, heap_setCell_same _ aB 18 _ _ _ (heap_setCell_same wd aB 17 _ _ _ AD.out)]; rfl
      have B7 : Below W1.heap.size W1 W7 := by rw [hW7]; exact below_set (below_set BD1.out gaB) gaB
      have T7 : Tn (· = aB) wd W7 := by rw [hW7]; exact (Tn.one _).trans (Tn.one _)
      have Z7 : W7.heap.size = wd.heap.size := by rw [hW7]; simp
      rw [← hW7]
      have BR : Below wr.heap.size wr W7 := HB1.out.trans (B7.mono HB1.out.size)
      have RQ7 := hid RQ.out
      obtain ⟨pq1, pq2, _⟩ := RQ.out
      obtain ⟨pd1, pd2, _⟩ := RDD.out
      have s5 : W5.drew.heap.size = W5.heap.size := rfl
      rw [s5] at pq1 pq2
      have z1 := PQ.out
      have z2 := PD.out
      have z3 := BD.out.size
      have z4 := BQ.out.size
      have z5 := HB1.out.size
      have z6 := HI.out.bel.size
      have hAC : Hid (ActAt w W7 ⟨wr.heap.size, W7.heap.size, aB, P, Sq, P', Sd, uo, un, uc, ao, an, ac⟩ i O lf (kd.vals.getD i []) qe de) := hid (by
        have fo := (HFO.out.2 i hio).fu
        have fu : un = O.subs.length := ZF.out.hu.1.symm
        rw [← ZO.out, ← fu] at fo
        have fv := HF.out.fv.2 i (by rw [HKL.out.1.2.1]; exact hio)
        have fa : an = (kd.vals.getD i []).length := HAV.out.1.symm
        rw [← fa] at fv
        refine ⟨⟨_, A7, ⟨rfl, ?_, rfl⟩, ⟨rfl, rfl⟩, rfl, rfl⟩, ?_, ?_, ZF.out.hu, HAV.out, ⟨fv, fo⟩, z6, ⟨by dsimp only; omega, by dsimp only; omega⟩, ⟨⟨by dsimp only; omega, by dsimp only; omega⟩, ⟨by dsimp only; omega, by dsimp only; omega⟩⟩, ⟨⟨by dsimp only; omega, by dsimp only; omega⟩, ⟨by dsimp only; omega, by dsimp only; omega⟩⟩, ⟨by dsimp only; omega, by dsimp only; omega⟩, Nat.le_refl _⟩
        · rw [← ZP.out]; rfl
        · rw [← ZQ.out.1]; exact (((RQ7.out.below BD.out).tn T7 (by omega) (by omega)).base (by show w.heap.size ≤ W5.heap.size; omega))
        · rw [← ZQ.out.2]; exact ((RDD.out.tn T7 (by omega) (by omega)).base (by omega)))
      have HBR := hid BR
      have HB7 := hid B7
      have clen : cl.length = i := HCL.out
      have OA : Hid ((W7.alloc (.cells #[.pointer (some ⟨aB, 0, none⟩)] 146)).ownsRow w.heap.size 146 1 A i ((cl.map Ac.a).map (fun a => Value.pointer (some ⟨a, 0, none⟩)))) := hid (act_own (((HI.out.below BR).below (below1 _ _)).row) (by rw [List.length_map]; exact clen))
      have SZ7 : Hid (w.heap.size ≤ (W7.alloc (.cells #[.pointer (some ⟨aB, 0, none⟩)] 146)).heap.size) := hid ((HI.out.below BR).below (below1 _ _)).bel.size
      obtain ⟨Aa, Acp, rfl⟩ := own_any OA.out
      obtain ⟨⟨_, e1, _, _, _⟩, _, _⟩ := eng_cells (HI.out.below BR).eng.o
      have hHl := lt_of_block (HI.out.below BR).eng.o
      have F63 : Hid (i + 1 ≤ maxLen ∧ (i + 1) * 8 ≤ 140737488355328) := hid (by unfold maxLen; omega)
      clear hW7 A7 B7 T7 Z7 BR SX SY CD1 RQ RDD RQ7 PQ PD BQ BD BQ1 BD1 AD hald f17 f18 a17 a18 o0 o1 o2 o3 q0 q1 q2 q3 r1 r2 r3 hal CQ CD pq1 pq2 pd1 pd2 s5 z1 z2 z3 z4 z5 z6
      obtain ⟨i0, hi0, hz0, hz1, hz2⟩ := info_parts Tryz.infoPA
      go_upto_region 9 with (at_builtin; refine wpList_append_lies _ rfl (.tmp 74) (.tmp 76) 80 rfl w.heap.size 146 i0 (.pointer none) 1 8 Tryz.underlying80 hi0 hz0 hz1 hz2 rfl (by decide) (.slice Aa i Acp) i ((cl.map Ac.a).map (fun a => Value.pointer (some ⟨a, 0, none⟩))) rfl OA.out ⟨W7.heap.size, 0, none⟩ 1 1 [.pointer (some ⟨aB, 0, none⟩)] rfl rfl (World.news_of_block (heap_alloc_new W7 (.cells #[.pointer (some ⟨aB, 0, none⟩)] 146))) (one_u _ rfl) (by omega) F63.out.1 F63.out.2 SZ7.out (W7.heap.size + 1) (by simp) ?_; intro g cap w8 hown hgrow hat hlt8; have N := EI.add (c := ⟨wr.heap.size, W7.heap.size, aB, P, Sq, P', Sd, uo, un, uc, ao, an, ac⟩) HI.out HBR.out (by rw [clen, ← ZO.out, ← ZL.out, ← ZE.out.1, ← ZE.out.2]; exact hAC.out) (Nat.le_refl _) hgrow (by rw [clen]; exact hown); have NK := hid N.2.2; obtain ⟨⟨_, x1, _, _, _⟩, _, _⟩ := eng_cells N.2.1; have g1 := froz N.2.1 1; have hH8 := lt_of_block N.2.1; clear hown hgrow hat N)
      obtain ⟨W9, hW9⟩ : ∃ W, W = w8.setCell ⟨w.heap.size + 1 + 1 + 1, 1, none⟩ (.slice (some ⟨g, 0, none⟩) (i + 1) cap) := ⟨_, rfl⟩
      obtain ⟨cl', hcl'⟩ : ∃ x, x = cl ++ [⟨wr.heap.size, W7.heap.size, aB, P, Sq, P', Sd, uo, un, uc, ao, an, ac⟩] := ⟨_, rfl⟩
      have E9 : Hid (EI w Sb Kb sg os kd (.slice (some ⟨g, 0, none⟩) (i + 1) cap) (.slice none 0 0) wt cl' [] W9) := hid (by rw [hW9, hcl']; exact NK.out)
      have CL9 : Hid (cl'.length = i + 1) := hid (by rw [hcl', List.length_append, clen]; rfl)
      rw [← hW9]
      clear hW9 NK x1 g1 hH8 e1 hHl hAC OA SZ7 hcl' clen hlt8
      have D9 := hid (E9.out.below (Below.refl _ _).drew)
      obtain ⟨_, ⟨x5, x7⟩, _⟩ := eng_cells D9.out.eng.o
      have CP := hid (countPut_low (w.heap.size + 1 + 1 + 1) 5 wt bn W9.drew x5 x7 (froz D9.out.eng.o 5) (froz D9.out.eng.o 7))
      have SE := hid (fun (Y : World) (hY : EI w Sb Kb sg os kd (.slice (some ⟨g, 0, none⟩) (i + 1) cap) (.slice none 0 0) (wrap64 (wt + bn)) cl' [] Y) => And.intro (six_cells (t := 35) (w := Y) (by have := hY.kb; rw [HKb.out] at this; exact this)).2.2.1 ((hY.bel.cell (p := ⟨qb, qoff + i, none⟩) hql).trans HQA.out))
      obtain ⟨q0, q1, q2, q3, _, _⟩ := six_cells (t := 35) (w := W9) (by have := E9.out.kb; rw [HKb.out] at this; exact this)
      have r2 := (E9.out.bel.cell (p := ⟨qb, qoff + i, none⟩) hql).trans HQA.out
      have hH9 := lt_of_block E9.out.eng.o
      clear x5 x7
      go_region_held3 (fun Y => Y.cell? ⟨w.heap.size + 1, 2, none⟩ = some (.slice (some ⟨qb, qoff, none⟩) en qc) ∧ Y.cell? ⟨qb, qoff + i, none⟩ = some (.slice bo bn bc)) (first | (with_reducible exact SX.out) | go_keep)
        (first | (go_at_call 74; with_reducible refine CP.out.mono ?_; rintro e w10 ⟨rfl, hw10⟩; have E10 : Hid (EI w Sb Kb sg os kd (.slice (some ⟨g, 0, none⟩) (i + 1) cap) (.slice none 0 0) (wrap64 (wt + bn)) cl' [] w10) := hid (by rw [hw10]; exact D9.out.count _); have SX := hid (SE.out w10 E10.out); clear hw10))
      all_goals
        go_wp2_with fail
        go_roundg (en - (i + 1))
        case measure => omega
        case rel => exact ⟨i + 1, _, _, cl', hlt, rfl, by go_num, CL9, E10⟩
    · have ei : i = en := by omega
      have nlt : ¬ (i : Int) < (en : Int) := by omega
      have CLE : Hid (cl.length = en) := hid (by rw [HCL.out, ei])
      clear ei HCL
      obtain ⟨y0, y1, y2⟩ := three_cells (show wr.heap[w.heap.size]? = some (.cells #[.int .i64 sg, .slice (some ⟨b, off, none⟩) en ec, .slice xo xn xc] 42 (0, 0)) by rw [← HSb.out]; exact HI.out.sb)
      go_wp2_with fail
      clear y0 y1 y2
      go_loopg [9, 10, 94] xn (fun mm s9 s10 ix wy => ∃ (j : Nat) (Xv : Value), j ≤ xn ∧ mm = xn - j ∧ ix = .int .i64 j ∧ Hid (EI w Sb Kb sg os kd A Xv wt cl (alL ts kd j) wy))
      case atStart => exact ⟨0, _, Nat.zero_le _, by omega, rfl, HI⟩
      case round =>
        clear HI
        obtain ⟨j, Xv, hj, rfl, rfl, HI⟩ := hrel
        by_cases hlt2 : j < xn
        · have hlt2' : (j : Int) < (xn : Int) := by omega
          obtain ⟨tb, toff, rfl, htl, htc⟩ := HX.out.2 (by omega)
          obtain ⟨fb, foff, hfo, hfl, hfc⟩ := HKF.out.1.2 (by show 0 < xn; omega)
          obtain ⟨gb, goff, hgo, hgl, hgc⟩ := HKF.out.2.2 (by show 0 < xn; omega)
          subst hfo hgo
          obtain ⟨t0, t1⟩ := htc j hlt2
          have f0 := hfc j hlt2
          have g0 := hgc j hlt2
          obtain ⟨z1, hz1⟩ : ∃ x, x = (ts.getD j (0, 0)).1 := ⟨_, rfl⟩
          obtain ⟨z2, hz2⟩ : ∃ x, x = (ts.getD j (0, 0)).2 := ⟨_, rfl⟩
          obtain ⟨z3, hz3⟩ : ∃ x, x = kd.left.getD j 0 := ⟨_, rfl⟩
          obtain ⟨z4, hz4⟩ : ∃ x, x = kd.every.getD j 0 := ⟨_, rfl⟩
          rw [← hz1] at t0
          rw [← hz2] at t1
          rw [← hz3] at f0
          rw [← hz4] at g0
          have ZA : Hid (alF ts kd j = ((z1, z2), z3, z4)) := hid (by unfold alF; rw [hz1, hz2, hz3, hz4])
          have t0' := (HI.out.bel.cell (p := ⟨tb, toff + j * 2, none⟩) htl).trans t0
          have t1' := (HI.out.bel.cell (p := ⟨tb, toff + j * 2 + 1, none⟩) htl).trans t1
          clear hz1 hz2 hz3 hz4 t0 t1 htc hfc hgc
          go_upto_region 14 with fail
          obtain ⟨W1, hW1⟩ : ∃ W, W = wr.alloc (.cells #[.int .i64 z1, .int .i64 z2] 115) := ⟨_, rfl⟩
          obtain ⟨TB, hTB⟩ : ∃ x, x = wr.heap.size := ⟨_, rfl⟩
          have BT : Hid (W1.heap[TB]? = some (.cells #[.int .i64 z1, .int .i64 z2] 115 (0, 0))) := hid (by rw [hW1, hTB]; exact heap_alloc_new _ _)
          have E1 : Hid (EI w Sb Kb sg os kd A Xv wt cl (alL ts kd j) W1) := hid (by rw [hW1]; exact HI.out.below (below1 _ _))
          rw [← hW1, ← hTB]
          clear hW1 hTB t0' t1' HI
          obtain ⟨Xa, Xc, rfl⟩ := own_any E1.out.alr
          have JL : (alL ts kd j).length = j := alL_len ts kd j
          rw [JL] at E1
          obtain ⟨Y, hY⟩ : ∃ Y, Y = W1 := ⟨_, rfl⟩
          have CS : Hid (∀ u : World, EI w Sb Kb sg os kd A (.slice Xa j Xc) wt cl (alL ts kd j) u → u.heap[TB]? = some (.cells #[.int .i64 z1, .int .i64 z2] 115 (0, 0)) → (u.cell? ⟨TB, 0, none⟩ = some (.int .i64 z1) ∧ u.cell? ⟨TB, 1, none⟩ = some (.int .i64 z2)) ∧ u.cell? ⟨w.heap.size + 1 + 1 + 1, 4, none⟩ = some (.slice Xa j Xc) ∧ (u.cell? ⟨w.heap.size + 1, 4, none⟩ = some (.slice (some ⟨fb, foff, none⟩) xn fc) ∧ u.cell? ⟨w.heap.size + 1, 5, none⟩ = some (.slice (some ⟨gb, goff, none⟩) xn gc)) ∧ u.cell? ⟨fb, foff + j, none⟩ = some (.int .i64 z3) ∧ u.cell? ⟨gb, goff + j, none⟩ = some (.int .i64 z4)) := hid (fun u hu hT => by
            obtain ⟨⟨_, _, _, _, e4⟩, _, _⟩ := eng_cells hu.eng.o
            obtain ⟨v0, v1⟩ := two_cells hT
            obtain ⟨_, _, _, _, k4, k5⟩ := six_cells (t := 35) (w := u) (by have := hu.kb; rw [HKb.out] at this; exact this)
            exact ⟨⟨v0, v1⟩, e4, ⟨k4, k5⟩, (hu.bel.cell (p := ⟨fb, foff + j, none⟩) hfl).trans f0, (hu.bel.cell (p := ⟨gb, goff + j, none⟩) hgl).trans g0⟩)
          have HS : Hid ((W1.cell? ⟨TB, 0, none⟩ = some (.int .i64 z1) ∧ W1.cell? ⟨TB, 1, none⟩ = some (.int .i64 z2)) ∧ W1.cell? ⟨w.heap.size + 1 + 1 + 1, 4, none⟩ = some (.slice Xa j Xc) ∧ (W1.cell? ⟨w.heap.size + 1, 4, none⟩ = some (.slice (some ⟨fb, foff, none⟩) xn fc) ∧ W1.cell? ⟨w.heap.size + 1, 5, none⟩ = some (.slice (some ⟨gb, goff, none⟩) xn gc)) ∧ W1.cell? ⟨fb, foff + j, none⟩ = some (.int .i64 z3) ∧ W1.cell? ⟨gb, goff + j, none⟩ = some (.int .i64 z4)) := hid (CS.out W1 E1.out BT.out)
          have HSd : Hid ((W1.drew.cell? ⟨TB, 0, none⟩ = some (.int .i64 z1) ∧ W1.drew.cell? ⟨TB, 1, none⟩ = some (.int .i64 z2)) ∧ W1.drew.cell? ⟨w.heap.size + 1 + 1 + 1, 4, none⟩ = some (.slice Xa j Xc) ∧ (W1.drew.cell? ⟨w.heap.size + 1, 4, none⟩ = some (.slice (some ⟨fb, foff, none⟩) xn fc) ∧ W1.drew.cell? ⟨w.heap.size + 1, 5, none⟩ = some (.slice (some ⟨gb, goff, none⟩) xn gc)) ∧ W1.drew.cell? ⟨fb, foff + j, none⟩ = some (.int .i64 z3) ∧ W1.drew.cell? ⟨gb, goff + j, none⟩ = some (.int .i64 z4)) := hid (CS.out W1.drew (E1.out.below (Below.refl _ _).drew) BT.out)
          clear hY
          refine wp_region_noPanic ?_
          refine wp_region_till (st := 21) (S := fun u => (u.cell? ⟨TB, 0, none⟩ = some (.int .i64 z1) ∧ u.cell? ⟨TB, 1, none⟩ = some (.int .i64 z2)) ∧ u.cell? ⟨w.heap.size + 1 + 1 + 1, 4, none⟩ = some (.slice Xa j Xc) ∧ (u.cell? ⟨w.heap.size + 1, 4, none⟩ = some (.slice (some ⟨fb, foff, none⟩) xn fc) ∧ u.cell? ⟨w.heap.size + 1, 5, none⟩ = some (.slice (some ⟨gb, goff, none⟩) xn gc)) ∧ u.cell? ⟨fb, foff + j, none⟩ = some (.int .i64 z3) ∧ u.cell? ⟨gb, goff + j, none⟩ = some (.int .i64 z4)) (by kernel_rfl) ?_
          refine wpTill_take (i := 0) (d := some 99) (v := ?_) rfl rfl (by kernel_rfl) (by kernel_rfl) (by kernel_rfl) (by kernel_rfl) (by kernel_rfl) (fun _ _ _ h => h) (Or.inl ⟨by rfl, ?_⟩) HSd.out ?_
          case refine_2 => (intro u hu; obtain ⟨⟨s0, s1⟩, s2, ⟨s3, s4⟩, s5, s6⟩ := hu; go_simp; first | done | with_reducible rfl)
          simp only [Act.put, List.setIfInBounds_toArray, List.set_cons_zero, List.set_cons_succ]
          refine wpTill_take (i := 1) (d := some 100) (v := ?_) rfl rfl (by kernel_rfl) (by kernel_rfl) (by kernel_rfl) (by kernel_rfl) (by kernel_rfl) (fun _ _ _ h => h) (Or.inl ⟨by rfl, ?_⟩) HSd.out ?_
          case refine_2 => (intro u hu; obtain ⟨⟨s0, s1⟩, s2, ⟨s3, s4⟩, s5, s6⟩ := hu; go_simp; first | done | with_reducible rfl)
          simp only [Act.put, List.setIfInBounds_toArray, List.set_cons_zero, List.set_cons_succ]
          refine wpTill_take (i := 2) (d := some 101) (v := ?_) rfl rfl (by kernel_rfl) (by kernel_rfl) (by kernel_rfl) (by kernel_rfl) (by kernel_rfl) (fun _ _ _ h => h) (Or.inl ⟨by rfl, ?_⟩) HSd.out ?_
          case refine_2 => (intro u hu; obtain ⟨⟨s0, s1⟩, s2, ⟨s3, s4⟩, s5, s6⟩ := hu; go_simp; first | done | with_reducible rfl)
          simp only [Act.put, List.setIfInBounds_toArray, List.set_cons_zero, List.set_cons_succ]
          refine wpTill_take (i := 3) (d := some 102) (v := ?_) rfl rfl (by kernel_rfl) (by kernel_rfl) (by kernel_rfl) (by kernel_rfl) (by kernel_rfl) (fun _ _ _ h => h) (Or.inl ⟨by rfl, ?_⟩) HSd.out ?_
          case refine_2 => (intro u hu; obtain ⟨⟨s0, s1⟩, s2, ⟨s3, s4⟩, s5, s6⟩ := hu; go_simp; first | done | with_reducible rfl)
          simp only [Act.put, List.setIfInBounds_toArray, List.set_cons_zero, List.set_cons_succ]
          refine wpTill_take (i := 4) (d := some 103) (v := ?_) rfl rfl (by kernel_rfl) (by kernel_rfl) (by kernel_rfl) (by kernel_rfl) (by kernel_rfl) (fun _ _ _ h => h) (Or.inl ⟨by rfl, ?_⟩) HSd.out ?_
          case refine_2 => (intro u hu; obtain ⟨⟨s0, s1⟩, s2, ⟨s3, s4⟩, s5, s6⟩ := hu; go_simp; first | done | with_reducible rfl)
          simp only [Act.put, List.setIfInBounds_toArray, List.set_cons_zero, List.set_cons_succ]
          refine wpTill_take (i := 5) (d := some 104) (v := ?_) rfl rfl (by kernel_rfl) (by kernel_rfl) (by kernel_rfl) (by kernel_rfl) (by kernel_rfl) (fun _ _ _ h => h) (Or.inl ⟨by rfl, ?_⟩) HSd.out ?_
          case refine_2 => (intro u hu; obtain ⟨⟨s0, s1⟩, s2, ⟨s3, s4⟩, s5, s6⟩ := hu; go_simp; first | done | with_reducible rfl)
          simp only [Act.put, List.setIfInBounds_toArray, List.set_cons_zero, List.set_cons_succ]
          refine wpTill_take (i := 6) (d := some 105) (v := ?_) rfl rfl (by kernel_rfl) (by kernel_rfl) (by kernel_rfl) (by kernel_rfl) (by kernel_rfl) (fun _ _ _ h => h) (Or.inl ⟨by rfl, ?_⟩) HSd.out ?_
          case refine_2 => (intro u hu; obtain ⟨⟨s0, s1⟩, s2, ⟨s3, s4⟩, s5, s6⟩ := hu; go_simp; first | done | with_reducible rfl)
          simp only [Act.put, List.setIfInBounds_toArray, List.set_cons_zero, List.set_cons_succ]
          refine wpTill_take (i := 7) (d := some 106) (v := ?_) rfl rfl (by kernel_rfl) (by kernel_rfl) (by kernel_rfl) (by kernel_rfl) (by kernel_rfl) (fun _ _ _ h => h) (Or.inl ⟨by rfl, ?_⟩) HSd.out ?_
          case refine_2 => (intro u hu; obtain ⟨⟨s0, s1⟩, s2, ⟨s3, s4⟩, s5, s6⟩ := hu; go_simp; first | done | with_reducible rfl)
          simp only [Act.put, List.setIfInBounds_toArray, List.set_cons_zero, List.set_cons_succ]
          refine wpTill_take (i := 8) (d := some 107) (v := ?_) rfl rfl (by kernel_rfl) (by kernel_rfl) (by kernel_rfl) (by kernel_rfl) (by kernel_rfl) (fun _ _ _ h => h) (Or.inl ⟨by rfl, ?_⟩) HSd.out ?_
          case refine_2 => (intro u hu; obtain ⟨⟨s0, s1⟩, s2, ⟨s3, s4⟩, s5, s6⟩ := hu; go_simp; first | done | with_reducible rfl)
          simp only [Act.put, List.setIfInBounds_toArray, List.set_cons_zero, List.set_cons_succ]
          refine wpTill_take (i := 9) (d := some 108) (v := ?_) rfl rfl (by kernel_rfl) (by kernel_rfl) (by kernel_rfl) (by kernel_rfl) (by kernel_rfl) (fun _ _ _ h => h) (Or.inl ⟨by rfl, ?_⟩) HSd.out ?_
          case refine_2 => (intro u hu; obtain ⟨⟨s0, s1⟩, s2, ⟨s3, s4⟩, s5, s6⟩ := hu; go_simp; first | done | with_reducible rfl)
          simp only [Act.put, List.setIfInBounds_toArray, List.set_cons_zero, List.set_cons_succ]
          refine wpTill_take (i := 10) (d := some 109) (v := ?_) rfl rfl (by kernel_rfl) (by kernel_rfl) (by kernel_rfl) (by kernel_rfl) (by kernel_rfl) (fun _ _ _ h => h) (Or.inl ⟨by rfl, ?_⟩) HSd.out ?_
          case refine_2 => (intro u hu; obtain ⟨⟨s0, s1⟩, s2, ⟨s3, s4⟩, s5, s6⟩ := hu; go_simp; first | done | with_reducible rfl)
          simp only [Act.put, List.setIfInBounds_toArray, List.set_cons_zero, List.set_cons_succ]
          refine wpTill_take (i := 11) (d := some 110) (v := ?_) rfl rfl (by kernel_rfl) (by kernel_rfl) (by kernel_rfl) (by kernel_rfl) (by kernel_rfl) (fun _ _ _ h => h) (Or.inl ⟨by rfl, ?_⟩) HSd.out ?_
          case refine_2 => (intro u hu; obtain ⟨⟨s0, s1⟩, s2, ⟨s3, s4⟩, s5, s6⟩ := hu; go_simp; first | done | with_reducible rfl)
          simp only [Act.put, List.setIfInBounds_toArray, List.set_cons_zero, List.set_cons_succ]
          refine wpTill_take (i := 12) (d := some 111) (v := ?_) rfl rfl (by kernel_rfl) (by kernel_rfl) (by kernel_rfl) (by kernel_rfl) (by kernel_rfl) (fun _ _ _ h => h) (Or.inl ⟨by rfl, ?_⟩) HSd.out ?_
          case refine_2 => (intro u hu; obtain ⟨⟨s0, s1⟩, s2, ⟨s3, s4⟩, s5, s6⟩ := hu; go_simp; first | done | with_reducible rfl)
          simp only [Act.put, List.setIfInBounds_toArray, List.set_cons_zero, List.set_cons_succ]
          refine wpTill_take (i := 13) (d := some 112) (v := ?_) rfl rfl (by kernel_rfl) (by kernel_rfl) (by kernel_rfl) (by kernel_rfl) (by kernel_rfl) (fun _ _ _ h => h) (Or.inl ⟨by rfl, ?_⟩) HSd.out ?_
          case refine_2 => (intro u hu; obtain ⟨⟨s0, s1⟩, s2, ⟨s3, s4⟩, s5, s6⟩ := hu; go_simp; first | done | with_reducible rfl)
          simp only [Act.put, List.setIfInBounds_toArray, List.set_cons_zero, List.set_cons_succ]
          refine wpTill_take (i := 14) (d := some 113) (v := ?_) rfl rfl (by kernel_rfl) (by kernel_rfl) (by kernel_rfl) (by kernel_rfl) (by kernel_rfl) (fun _ _ _ h => h) (Or.inl ⟨by rfl, ?_⟩) HSd.out ?_
          case refine_2 => (intro u hu; obtain ⟨⟨s0, s1⟩, s2, ⟨s3, s4⟩, s5, s6⟩ := hu; go_simp; first | done | with_reducible rfl)
          simp only [Act.put, List.setIfInBounds_toArray, List.set_cons_zero, List.set_cons_succ]
          refine wpTill_take (i := 15) (d := some 114) (v := ?_) rfl rfl (by kernel_rfl) (by kernel_rfl) (by kernel_rfl) (by kernel_rfl) (by kernel_rfl) (fun _ _ _ h => h) (Or.inl ⟨by rfl, ?_⟩) HSd.out ?_
          case refine_2 => (intro u hu; obtain ⟨⟨s0, s1⟩, s2, ⟨s3, s4⟩, s5, s6⟩ := hu; go_simp; first | done | with_reducible rfl)
          simp only [Act.put, List.setIfInBounds_toArray, List.set_cons_zero, List.set_cons_succ]
          refine wpTill_take (i := 16) (d := some 115) (v := ?_) rfl rfl (by kernel_rfl) (by kernel_rfl) (by kernel_rfl) (by kernel_rfl) (by kernel_rfl) (fun _ _ _ h => h) (Or.inl ⟨by rfl, ?_⟩) HSd.out ?_
          case refine_2 => (intro u hu; obtain ⟨⟨s0, s1⟩, s2, ⟨s3, s4⟩, s5, s6⟩ := hu; go_simp; first | done | with_reducible rfl)
          simp only [Act.put, List.setIfInBounds_toArray, List.set_cons_zero, List.set_cons_succ]
          obtain ⟨U, hU⟩ : ∃ U, U = (W1.alloc (.cells #[.int .i64 z1, .int .i64 z2, .int .i64 z3, .int .i64 z4] 159)).drew := ⟨_, rfl⟩
          have BU : Hid (Below W1.heap.size W1 U) := hid (by rw [hU]; exact (below1 _ _).drew)
          have EU := hid (E1.out.below BU.out)
          have TU := hid (block_below BT.out BU.out)
          have NU : Hid (U.heap[W1.heap.size]? = some (.cells #[.int .i64 z1, .int .i64 z2, .int .i64 z3, .int .i64 z4] 159 (0, 0))) := hid (by rw [hU]; exact heap_alloc_new W1 _)
          have SU0 : Hid (U.heap.size = W1.heap.size + 1) := hid (by rw [hU]; simp)
          have KU := hid (CS.out U EU.out TU.out)
          have NWU := hid (World.news_of_block NU.out)
          have OU : Hid (U.ownsRow w.heap.size 159 4 (.slice Xa j Xc) j (alC (alL ts kd j))) := hid (by have := EU.out.alr; unfold AlRow at this; rw [JL] at this; exact this)
          have F63 : Hid (j + 1 ≤ maxLen ∧ (j + 1) * 32 ≤ 140737488355328) := hid (by unfold maxLen; omega)
          obtain ⟨i1, hi1, hy0, hy1, hy2⟩ := info_parts Tryz.infoAl
          refine wpTill_step (i := 17) (by kernel_rfl) rfl (fun K hK => ?_)
          go_simp
          rw [← hU]
          refine hK _ _ KU.out ?_
          clear hU hK K
          refine wpTill_step (i := 18) (by kernel_rfl) rfl (fun K hK => ?_)
          refine step_append_lies _ (by rfl) _ _ _ (by rfl) w.heap.size 159 i1 _ 4 32 Tryz.underlying82 hi1 hy0 hy1 hy2 rfl (by omega) (.slice Xa j Xc) j (alC (alL ts kd j)) (by simp [Act.eval]) OU.out ⟨W1.heap.size, 0, none⟩ 1 1 [.int .i64 z1, .int .i64 z2, .int .i64 z3, .int .i64 z4] (by simp [Act.eval]) (by simp) NWU.out (by intro u hu; simp at hu; rcases hu with rfl | rfl | rfl | rfl <;> rfl) (by omega) F63.out.1 F63.out.2 EU.out.bel.size U.heap.size rfl ?_
          intro gg cap' w2 hown hgrow hat hlt3
          have N := EI.alarm (x := ((z1, z2), z3, z4)) EU.out hgrow (by rw [JL]; exact hown)
          have NK := hid N.2
          have N1 := hid N.1
          have K2 : Hid ((w2.cell? ⟨TB, 0, none⟩ = some (.int .i64 z1) ∧ w2.cell? ⟨TB, 1, none⟩ = some (.int .i64 z2)) ∧ w2.cell? ⟨w.heap.size + 1 + 1 + 1, 4, none⟩ = some (.slice Xa j Xc) ∧ (w2.cell? ⟨w.heap.size + 1, 4, none⟩ = some (.slice (some ⟨fb, foff, none⟩) xn fc) ∧ w2.cell? ⟨w.heap.size + 1, 5, none⟩ = some (.slice (some ⟨gb, goff, none⟩) xn gc)) ∧ w2.cell? ⟨fb, foff + j, none⟩ = some (.int .i64 z3) ∧ w2.cell? ⟨gb, goff + j, none⟩ = some (.int .i64 z4)) := hid (by
            have k := KU.out
            have far : ∀ (q o : Nat) (cs : Array Value) (t : TypeId), U.heap[q]? = some (.cells cs t (0, 0)) → t ≠ 159 → w2.cell? ⟨q, o, none⟩ = U.cell? ⟨q, o, none⟩ := fun q o cs t hq ht => cell_same (hgrow.block q (lt_of_block hq) (fun x => own_far2 OU.out ht hq x.symm)) o
            have low : ∀ (q o : Nat), q < w.heap.size → w2.cell? ⟨q, o, none⟩ = U.cell? ⟨q, o, none⟩ := fun q o hq => cell_same (hgrow.block q (by have := EU.out.bel.size; omega) (fun x => by have := (OU.out.lt q x.symm).1; omega)) o
            exact ⟨⟨(far _ 0 _ _ TU.out (by decide)).trans k.1.1, (far _ 1 _ _ TU.out (by decide)).trans k.1.2⟩, (far _ 4 _ _ EU.out.eng.o (by decide)).trans k.2.1, ⟨(far _ 4 _ _ EU.out.kb (by decide)).trans k.2.2.1.1, (far _ 5 _ _ EU.out.kb (by decide)).trans k.2.2.1.2⟩, (low fb _ hfl).trans k.2.2.2.1, (low gb _ hgl).trans k.2.2.2.2⟩)
          refine hK _ _ K2.out ?_
          clear hK K
          refine wpTill_step (i := 19) (by kernel_rfl) rfl (fun K hK => ?_)
          go_simp
          refine hK _ _ K2.out ?_
          clear hK K
          refine wpTill_step (i := 20) (by kernel_rfl) rfl (fun K hK => ?_)
          go_simp
          refine hK _ _ K2.out ?_
          clear hK K
          have rB : w2.cell? ⟨w.heap.size + 1 + 1 + 1, 4, none⟩ = some (.slice Xa j Xc) := K2.out.2.1
          have fB : w2.frozen? ⟨w.heap.size + 1 + 1 + 1, 4, none⟩ = false := froz N1.out 4
          refine wpTill_last (by kernel_rfl) rfl (by kernel_rfl) (fun K hK => ?_)
          go_simp
          refine hK _ _ ?_
          clear hK K
          refine wpTill_done (by kernel_rfl) ?_ _
          refine NoPanic.normal ?_
          clear rB fB hown hgrow hat K2 KU OU NWU N
          go_wp2_with fail
          go_roundg (xn - (j + 1))
          case measure => omega
          case rel => exact ⟨j + 1, _, hlt2, rfl, by go_num, hid (by rw [alL_succ, ZA.out]; exact NK.out)⟩
        · have ej : j = xn := by omega
          have nlt2 : ¬ (j : Int) < (xn : Int) := by omega
          have E2 : Hid (EI w Sb Kb sg os kd A Xv wt cl (alL ts kd ts.length) wr) := hid (by have h := HI.out; rw [ej, ← HLX.out] at h; exact h)
          have CR := hid (rank_any w wr (w.heap.size + 1 + 1 + 1) sg A _ _ Xv _ _ _ _ wt 0 [] cl os kd E2.out.eng E2.out.row E2.out.acts E2.out.bel (by rw [CLE.out]; exact on1) (by rw [CLE.out]; exact on2))
          clear ej HI
          go_wp2_with (go_at_call 75; refine CR.out.mono ?_; rintro e w9 ⟨rfl, R', m, d, es, ct, hR⟩; have M9 := hid (E2.out.ranked hR); clear hR)
          go_ret
          exact ⟨_, _, _, _, m, cl, d, es, ct, rfl, M9.out, by rw [CLE.out, HL.out]⟩
end Go.Proofs.YthaklmdhkkfigaaGreat

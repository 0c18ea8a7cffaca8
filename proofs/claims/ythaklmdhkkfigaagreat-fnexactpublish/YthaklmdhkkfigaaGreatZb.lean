import Derived.Test.YthaklmdhkkfigaaGreatZa
import Derived.Test.YthaklmdhkkfigaaGreatEa
import Derived.Deep.DeepCutAuto
namespace Go.Proofs.YthaklmdhkkfigaaGreat
open Go.RowKit Go.Sort
set_option linter.unusedVariables false
attribute [local go_sem ↓] Go.wp_at_zero Go.wp_at_succ

set_option maxHeartbeats 400000 in
theorem copyK_any (ao : Option Addr) (n c : Nat) (zs : List Int) (w : World) (hn : n ≤ 1048576) (hs : SliceOf w ao n zs) :
    Calls Tryz.prog 79 #[.slice ao n c] w fun e w' => ∃ va vc, e = .returned (.slice va n vc) ∧ w'.ownsRow w.heap.size 3 1 (.slice va n vc) zs.length (vint zs) ∧ Below w.heap.size w w' := by
  obtain ⟨i0, hi, hz0, hz1, hz2⟩ := info_parts Tryz.infoInt0
  have HS := hid hs
  have HL := hid hs.1
  clear hs
  go_enter Tryz.func79, Tryz.ntmps79
  go_wp2_with (at_builtin; refine wpList_append_opt _ rfl (.tmp 3) (.tmp 4) 26 rfl w.heap.size 3 i0 (.int .i64 0) 1 8 Tryz.underlying26 hi hz0 hz1 hz2 rfl (by decide) _ 0 [] rfl ?c0 ao n c (zs.map (Value.int .i64)) rfl ?c6 ?c1 ?c2 ?c3 ?c4 ?c5 ?_)
  case c0 => exact World.ownsRow_lit w #[] 0 (Nat.le_refl _) (by decide) rfl
  case c6 => simp [HL.out]
  case c1 => exact news_of HS.out (below1 _ _)
  case c2 => intro u hu; simp at hu; obtain ⟨z, _, rfl⟩ := hu; rfl
  case c3 => unfold maxLen; omega
  case c4 => omega
  case c5 => simp
  · intro v' w1 hown' hgrow hnil
    have O : Hid (w1.ownsRow w.heap.size 3 1 v' n (vint zs)) := hid (by simpa using hown')
    have G := hid hgrow
    obtain ⟨va, vc, rfl⟩ := own_any O.out
    clear hown' hgrow hnil
    go_wp2
    go_ret
    exact ⟨_, _, rfl, by rw [HL.out]; exact O.out, (below1 _ _).grown G.out (by simp) (fun k hk => by simp [Value.ownBlock] at hk; omega)⟩
theorem take_all {α : Type} {l : List α} {n : Nat} (h : l.length = n) : l.take n = l := List.take_of_length_le (by omega)
theorem four_c {w : World} {H : Nat} {a b c d : Value} {t : TypeId} (k : w.heap[H]? = some (.cells #[a, b, c, d] t (0, 0))) : (w.cell? ⟨H, 0, none⟩ = some a ∧ w.cell? ⟨H, 1, none⟩ = some b) ∧ w.cell? ⟨H, 2, none⟩ = some c ∧ w.cell? ⟨H, 3, none⟩ = some d := by simp [World.cell?, k]
theorem one_u (u : Value) (h : u.oneCell' = true) : ∀ x ∈ [u], x.oneCell' = true := by intro x hx; simp at hx; subst hx; exact h
/-- The cells of an actor's box that a kernel is made of. -/
theorem AcC.cells {w : World} {a : Nat} {cs : Array Value} {i : Nat} {p : Int} {c : Ac} {lf : Int} (hb : w.heap[a]? = some (.cells cs 155 (0, 0))) (h : AcC cs i p c lf) : (w.cell? ⟨a, 0, none⟩ = some (.int .i64 (i : Int)) ∧ w.cell? ⟨a, 1, none⟩ = some (.int .i64 p) ∧ w.cell? ⟨a, 6, none⟩ = some (.slice c.uo c.un c.uc)) ∧ (w.cell? ⟨a, 13, none⟩ = some (.int .i64 lf) ∧ w.cell? ⟨a, 15, none⟩ = some (.slice c.vo c.vn c.vc)) ∧ w.cell? ⟨a, 17, none⟩ = some (.pointer (some ⟨c.P, 0, none⟩)) ∧ w.cell? ⟨a, 18, none⟩ = some (.pointer (some ⟨c.P', 0, none⟩)) := by
  obtain ⟨⟨h0, h1, h2⟩, ⟨h3, h4⟩, h5, h6⟩ := h
  simp [World.cell?, hb, h0, h1, h2, h3, h4, h5, h6]
theorem Tryz.infoEvS1 : (Tryz.prog.info? 138).map (fun i => (i.zero, i.size, i.bytes)) = some (some (.slice none 0 0), 1, 24) := by kernel_rfl
end Go.Proofs.YthaklmdhkkfigaaGreat
namespace Go.Proofs.YthaklmdhkkfigaaGreat
open Go.RowKit Go.Sort
set_option linter.unusedVariables false
attribute [local go_sem ↓] Go.wp_at_zero Go.wp_at_succ

set_option maxRecDepth 100000 in
set_option maxHeartbeats 6400000 in
theorem kernel_any (w0 w : World) (H : Nat) (sg : Int) (A R M X s6 g9 g10 rv : Value) (wt tk : Int) (cl : List Ac) (os : List ObD) (k : KerD) (al : List ((Int × Int) × Int × Int))
    (hH : w.heap[H]? = some (.cells (engC sg A R M X s6 g9 g10 rv wt tk) 100 (0, 0))) (hA : ActRow w w0.heap.size A (cl.map Ac.a)) (hC : Acts w0 w cl os k) (hX : AlRow w w0.heap.size X al) (hb : Below w0.heap.size w0 w)
    (hn1 : 1 ≤ cl.length) (hn2 : cl.length ≤ 64) (ht : al.length ≤ 200) (e1 : k.leaf.length = cl.length) (e2 : k.vals.length = cl.length) (e3 : k.qs.length = cl.length) (e4 : k.ds.length = cl.length) (e5 : k.left = al.map (fun x => x.2.1)) (e6 : k.every = al.map (fun x => x.2.2)) :
    Calls Tryz.prog 42 #[.pointer (some ⟨H, 0, none⟩)] w fun e w' => ∃ L V Q D E F vs vq vd, e = .returned (.agg #[L, V, Q, D, E, F]) ∧ Rw w' w.heap.size L V Q D E F vs vq vd k ∧ Far6 L Q D E F vs vq vd ∧ Below w.heap.size w w' := by
  obtain ⟨i0, hi0, hz0, hz1, hz2⟩ := info_parts Tryz.infoInt0
  obtain ⟨j0, hj0, hy0, hy1, hy2⟩ := info_parts Tryz.infoIntS
  obtain ⟨p0, hp0, hx0, hx1, hx2⟩ := info_parts Tryz.infoEvS1
  obtain ⟨n, hn⟩ : ∃ n, n = cl.length := ⟨_, rfl⟩
  have hA' : w.ownsRow w0.heap.size 146 1 A n ((cl.map Ac.a).map (fun a => Value.pointer (some ⟨a, 0, none⟩))) := by have h := hA; unfold ActRow at h; rw [List.length_map, ← hn] at h; exact h
  obtain ⟨gA, cA, rfl, _, gAl⟩ := World.ownsRow.form hA' (by omega)
  have HRow := hid hA'
  have HAC := hid hC
  have HN := hid hn
  have HX := hid hX
  have HBW := hid hb
  have HE := hid (And.intro e1 (And.intro e2 (And.intro e3 e4)))
  have HT := hid (And.intro e5 e6)
  obtain ⟨xa, xc, rfl⟩ := own_any hX
  obtain ⟨m, hm⟩ : ∃ m, m = al.length := ⟨_, rfl⟩
  have HM := hid hm
  rw [← hm] at hH ht
  obtain ⟨⟨_, c1, _, _, c4⟩, _, _⟩ := eng_cells hH
  have HHH := hid hH
  have hHl := lt_of_block hH
  rw [← hn] at hn1 hn2
  clear hA hA' hC hX hb hn e1 e2 e3 e4 e5 e6 hm hH
  go_enter Tryz.func42, Tryz.ntmps42
  go_wp2
  go_loopg [5, 13] n (fun mm s5 ix wr => ∃ (i : Nat) (LL : List Int) (VV : List (List Int)) (QQ DD : List (List (Int × Int))) (L V Q D : Value) (vs vq vd : List Value), i ≤ n ∧ mm = n - i ∧ ix = .int .i64 i ∧ Hid (LL = k.leaf.take i ∧ VV = k.vals.take i ∧ QQ = k.qs.take i ∧ DD = k.ds.take i) ∧ Hid (KI w L V Q D nilV nilV vs vq vd ⟨LL, VV, QQ, DD, [], []⟩ wr))
  case atStart => exact ⟨0, [], [], [], [], _, _, _, _, [], [], [], Nat.zero_le _, by omega, rfl, hid ⟨by simp, by simp, by simp, by simp⟩, hid (ki_start w)⟩
  case round =>
    obtain ⟨i, LL, VV, QQ, DD, L, V, Q, D, vs, vq, vd, hin, rfl, rfl, HTK, HK⟩ := hrel
    clear c1 c4
    by_cases hlt : i < n
    · have hlt' : (i : Int) < (n : Int) := by omega
      have hic : i < cl.length := by rw [← HN.out]; exact hlt
      obtain ⟨c, hc⟩ : ∃ c, c = cl.getD i ac0 := ⟨_, rfl⟩
      have hac := HAC.out.at_ i hic
      rw [← hc] at hac
      have l1 : Hid (LL.length = i) := hid (by rw [HTK.out.1, List.length_take, HE.out.1, ← HN.out]; omega)
      have l2 : Hid (VV.length = i ∧ vs.length = i) := hid (by have h := HK.out.rw.v.len; have h2 : VV.length = i := (by rw [HTK.out.2.1, List.length_take, HE.out.2.1, ← HN.out]; omega); exact ⟨h2, by rw [← h2]; exact h⟩)
      have l3 : Hid (QQ.length = i ∧ vq.length = i) := hid (by have h := HK.out.rw.q.len; have h2 : QQ.length = i := (by rw [HTK.out.2.2.1, List.length_take, HE.out.2.2.1, ← HN.out]; omega); exact ⟨h2, by rw [← h2]; exact h⟩)
      have l4 : Hid (DD.length = i ∧ vd.length = i) := hid (by have h := HK.out.rw.d.len; have h2 : DD.length = i := (by rw [HTK.out.2.2.2, List.length_take, HE.out.2.2.2, ← HN.out]; omega); exact ⟨h2, by rw [← h2]; exact h⟩)
      obtain ⟨lf, hlf⟩ : ∃ x, x = k.leaf.getD i 0 := ⟨_, rfl⟩
      obtain ⟨vl, hvl⟩ : ∃ x, x = k.vals.getD i [] := ⟨_, rfl⟩
      obtain ⟨ql, hql⟩ : ∃ x, x = k.qs.getD i [] := ⟨_, rfl⟩
      obtain ⟨dl, hdl⟩ : ∃ x, x = k.ds.getD i [] := ⟨_, rfl⟩
      rw [← hlf, ← hvl, ← hql, ← hdl] at hac
      have NX : Hid (LL ++ [lf] = k.leaf.take (i + 1) ∧ VV ++ [vl] = k.vals.take (i + 1) ∧ QQ ++ [ql] = k.qs.take (i + 1) ∧ DD ++ [dl] = k.ds.take (i + 1)) := hid (by
        obtain ⟨t1, t2, t3, t4⟩ := HTK.out
        obtain ⟨u1, u2, u3, u4⟩ := HE.out
        rw [take_snocA 0 (show i < k.leaf.length by omega), take_snocA [] (show i < k.vals.length by omega), take_snocA [] (show i < k.qs.length by omega), take_snocA [] (show i < k.ds.length by omega), t1, t2, t3, t4, hlf, hvl, hql, hdl]
        exact ⟨rfl, rfl, rfl, rfl⟩)
      have AB : Hid (∀ Y, Below w.heap.size w Y → (Y.cell? ⟨c.a, 13, none⟩ = some (.int .i64 lf) ∧ Y.cell? ⟨c.a, 15, none⟩ = some (.slice c.vo c.vn c.vc) ∧ Y.cell? ⟨c.a, 17, none⟩ = some (.pointer (some ⟨c.P, 0, none⟩)) ∧ Y.cell? ⟨c.a, 18, none⟩ = some (.pointer (some ⟨c.P', 0, none⟩))) ∧ c.a < Y.heap.size) := hid (fun Y hY => by
        obtain ⟨cs, b1, b2⟩ := (hac.below hY).bx
        obtain ⟨_, ⟨x13, x15⟩, x17, x18⟩ := b2.cells b1
        exact ⟨⟨x13, x15, x17, x18⟩, lt_of_block b1⟩)
      have CV := hid (fun Y (hY : Below w.heap.size w Y) => copyK_any c.vo c.vn c.vc vl Y hac.vn.1 (hac.vs.below (HBW.out.trans (hY.mono HBW.out.size))))
      have CQ := hid (fun Y (hY : Below w.heap.size w Y) => list_any w0.heap.size c.P c.S _ ql Y (hac.q.below hY))
      have CD := hid (fun Y (hY : Below w.heap.size w Y) => list_any w0.heap.size c.P' c.S' _ dl Y (hac.d.below hY))
      have cc := World.ownsRow.cellAt HRow.out i (by omega)
      rw [show ((cl.map Ac.a).map (fun a => Value.pointer (some ⟨a, 0, none⟩)))[i]? = some (.pointer (some ⟨c.a, 0, none⟩)) by rw [hc]; simp [List.getD_eq_getElem?_getD, hic]] at cc
      have ca := (HK.out.bel.cell (p := ⟨gA, i, none⟩) gAl).trans cc
      obtain ⟨la, lc, rfl⟩ := own_any HK.out.rw.l
      obtain ⟨va, vc, rfl⟩ := own_any HK.out.rw.v.row
      obtain ⟨qa, qc, rfl⟩ := own_any HK.out.rw.q.row
      obtain ⟨da, dc, rfl⟩ := own_any HK.out.rw.d.row
      have q1 := l1.out
      have q2 := l2.out.2
      have q3 := l3.out.2
      have q4 := l4.out.2
      have KK : Hid (KI w (.slice la i lc) (.slice va i vc) (.slice qa i qc) (.slice da i dc) nilV nilV vs vq vd ⟨LL, VV, QQ, DD, [], []⟩ wr) := hid (by have := HK.out; rw [q1, q2, q3, q4] at this; exact this)
      clear HK hac hlf hvl hql hdl hc cc q1 q2 q3 q4
      have F63 : Hid (i + 1 ≤ maxLen ∧ (i + 1) * 24 ≤ 140737488355328 ∧ (i + 1) * 8 ≤ 140737488355328) := hid (by unfold maxLen; omega)
      obtain ⟨d0, d1, d2, d3, d4, d5⟩ := six_cells KK.out.o
      obtain ⟨⟨a0, a1, a2, a3⟩, al0⟩ := AB.out wr KK.out.bel
      have hkl := lt_of_block KK.out.o
      have DR := hid (KK.out.below (Below.refl _ _).drew)
      go_upto_region 5 with fail
      go_cut [] (fun wx => ∃ g cap, KI w (.slice (some ⟨g, 0, none⟩) (i + 1) cap) (.slice va i vc) (.slice qa i qc) (.slice da i dc) nilV nilV vs vq vd ⟨LL ++ [lf], VV, QQ, DD, [], []⟩ wx)
      case first =>
        have KA := hid (KK.out.below (below1 wr (.cells #[.int .i64 lf] 3)))
        have OA : Hid ((wr.alloc (.cells #[.int .i64 lf] 3)).drew.ownsRow w.heap.size 3 1 (.slice la i lc) i (vint LL)) := hid (by have := KA.out.rw.l; rw [show (⟨LL, VV, QQ, DD, [], []⟩ : KerD).leaf.length = i from l1.out] at this; exact ownsRow_below this (Below.refl _ _).drew)
        have NW := hid (World.news_of_block (show (wr.alloc (.cells #[.int .i64 lf] 3)).drew.heap[wr.heap.size]? = some (.cells #[.int .i64 lf] 3 (0, 0)) from heap_alloc_new wr (.cells #[.int .i64 lf] 3)))
        have SZ : Hid (w.heap.size ≤ (wr.alloc (.cells #[.int .i64 lf] 3)).drew.heap.size) := hid KA.out.bel.size
        go_region_law
          (first
            | (refine step_append_lies _ (by rfl) _ _ _ (by rfl) w.heap.size 3 i0 _ 1 8 Tryz.underlying26 hi0 hz0 hz1 hz2 rfl (by omega) (.slice la i lc) i (vint LL) (by simp [Act.eval]) OA.out ⟨wr.heap.size, 0, none⟩ 1 1 [.int .i64 lf] (by simp [Act.eval]) rfl NW.out (one_u _ rfl) (by omega) F63.out.1 F63.out.2.2 SZ.out (wr.heap.size + 1) (by simp) ?_; intro g cap w1 hown hgrow hat hlt1; have N := KI.addL (x := lf) ((KA.out.below (Below.refl _ _).drew)) hgrow (by simpa using hat) (by rw [show (⟨LL, VV, QQ, DD, [], []⟩ : KerD).leaf.length = i from l1.out]; exact hown); have NK := hid N.2; obtain ⟨r0, r1, r2, r3, r4, r5⟩ := six_cells N.1; obtain ⟨m0, m1, m2, m3, m4, m5⟩ := six_froz N.1; have hH1 := lt_of_block N.1; clear hown hgrow hat N))
        all_goals
          go_wp2_with fail
          go_meet
          exact ⟨_, _, NK.out⟩
      case rest =>
        obtain ⟨g0, u0, hK⟩ := hcut
        clear d0 d1 d2 d3 d4 d5 a0 a1 a2 a3 al0 hkl
        clear KK DR
        obtain ⟨d0, d1, d2, d3, d4, d5⟩ := six_cells hK.o
        obtain ⟨⟨a0, a1, a2, a3⟩, al0⟩ := AB.out _ hK.bel
        have hkl := lt_of_block hK.o
        have KC := hid hK
        have KCD := hid (hK.below (Below.refl _ _).drew)
        clear hK
        go_wp2_with fail
        go_cut [] (fun wx => ∃ g cap y, KI w (.slice (some ⟨g0, 0, none⟩) (i + 1) u0) (.slice (some ⟨g, 0, none⟩) (i + 1) cap) (.slice qa i qc) (.slice da i dc) nilV nilV (vs ++ [y]) vq vd ⟨LL ++ [lf], VV ++ [vl], QQ, DD, [], []⟩ wx)
        case first =>
          go_region_law
            (first
              | (refine step_append_lies _ (by rfl) _ _ _ (by rfl) w.heap.size 26 j0 _ 1 24 Tryz.underlying27 hj0 hy0 hy1 hy2 rfl (by omega) (.slice va i vc) i vs (by simp [Act.eval]) OB.out ⟨w2.heap.size, 0, none⟩ 1 1 [.slice ya c.vn yc] (by simp [Act.eval]) rfl NW.out (one_u _ rfl) (by omega) F63.out.1 F63.out.2.1 SZ.out (w2.heap.size + 1) (by simp) ?_; intro g cap w3 hown hgrow hat hlt3; have N := KI.addV (W0 := wc.drew) KCD.out BX.out OX.out hgrow (by rw [l2.out.2]; exact hown); have NK := hid N.2; obtain ⟨r0, r1, r2, r3, r4, r5⟩ := six_cells N.1; obtain ⟨m0, m1, m2, m3, m4, m5⟩ := six_froz N.1; have hH3 := lt_of_block N.1; clear hown hgrow hat N)
              | (go_simp; go_wp2_with (go_at_call 79; refine (CV.out wc.drew KCD.out.bel).mono ?_; rintro e w2 ⟨ya, yc, rfl, hown2, hb2⟩; have K2 := hid (KCD.out.below hb2); have B3 := below1 w2 (.cells #[.slice ya c.vn yc] 26); have BX := hid (hb2.trans (B3.mono hb2.size)); have OX := hid (ownsRow_below hown2 B3); have OB : Hid ((w2.alloc (.cells #[.slice ya c.vn yc] 26)).ownsRow w.heap.size 26 1 (.slice va i vc) i vs) := hid (by have := (K2.out.below B3).rw.v.row; rw [l2.out.2] at this; exact this); have NW := hid (World.news_of_block (heap_alloc_new w2 (.cells #[.slice ya c.vn yc] 26))); have SZ := hid (K2.out.below B3).bel.size; obtain ⟨b0, b1, b2, b3, b4, b5⟩ := six_cells K2.out.o; obtain ⟨⟨x0, x1, x2, x3⟩, xl0⟩ := AB.out _ K2.out.bel; have hkl2 := lt_of_block K2.out.o; clear hown2 hb2 B3)))
          all_goals
            go_wp2_with fail
            go_meet
            exact ⟨_, _, _, NK.out⟩
        case rest =>
          obtain ⟨g1, u1, y1, hK⟩ := hcut
          clear d0 d1 d2 d3 d4 d5 a0 a1 a2 a3 al0 hkl
          clear KC KCD
          obtain ⟨d0, d1, d2, d3, d4, d5⟩ := six_cells hK.o
          obtain ⟨⟨a0, a1, a2, a3⟩, al0⟩ := AB.out _ hK.bel
          have hkl := lt_of_block hK.o
          have KC := hid hK
          have KCD := hid (hK.below (Below.refl _ _).drew)
          clear hK
          go_wp2_with fail
          go_cut [] (fun wx => ∃ g cap y, KI w (.slice (some ⟨g0, 0, none⟩) (i + 1) u0) (.slice (some ⟨g1, 0, none⟩) (i + 1) u1) (.slice (some ⟨g, 0, none⟩) (i + 1) cap) (.slice da i dc) nilV nilV (vs ++ [y1]) (vq ++ [y]) vd ⟨LL ++ [lf], VV ++ [vl], QQ ++ [ql], DD, [], []⟩ wx)
          case first =>
            go_region_law
              (first
                | (refine step_append_lies _ (by rfl) _ _ _ (by rfl) w.heap.size 138 p0 _ 1 24 Tryz.underlying33 hp0 hx0 hx1 hx2 rfl (by omega) (.slice qa i qc) i vq (by simp [Act.eval]) OB.out ⟨w2.heap.size, 0, none⟩ 1 1 [.slice ya ym yc] (by simp [Act.eval]) rfl NW.out (one_u _ rfl) (by omega) F63.out.1 F63.out.2.1 SZ.out (w2.heap.size + 1) (by simp) ?_; intro g cap w3 hown hgrow hat hlt3; have N := KI.addQ (W0 := wc.drew) KCD.out BX.out OX.out hgrow (by simpa using hat) (by rw [l3.out.2]; exact hown); have NK := hid N.2; obtain ⟨r0, r1, r2, r3, r4, r5⟩ := six_cells N.1; obtain ⟨m0, m1, m2, m3, m4, m5⟩ := six_froz N.1; have hH3 := lt_of_block N.1; clear hown hgrow hat N)
                | (go_simp; go_wp2_with (go_at_call 80; refine (CQ.out wc.drew KCD.out.bel).mono ?_; rintro e w2 ⟨yv, rfl, hown2, hb2⟩; obtain ⟨ya, ym, yc, rfl⟩ := row_form hown2; have K2 := hid (KCD.out.below hb2); have B3 := below1 w2 (.cells #[.slice ya ym yc] 138); have BX := hid (hb2.trans (B3.mono hb2.size)); have OX := hid (ownsRow_below hown2 B3); have OB : Hid ((w2.alloc (.cells #[.slice ya ym yc] 138)).ownsRow w.heap.size 138 1 (.slice qa i qc) i vq) := hid (by have := (K2.out.below B3).rw.q.row; rw [l3.out.2] at this; exact this); have NW := hid (World.news_of_block (heap_alloc_new w2 (.cells #[.slice ya ym yc] 138))); have SZ := hid (K2.out.below B3).bel.size; obtain ⟨b0, b1, b2, b3, b4, b5⟩ := six_cells K2.out.o; obtain ⟨⟨x0, x1, x2, x3⟩, xl0⟩ := AB.out _ K2.out.bel; have hkl2 := lt_of_block K2.out.o; clear hown2 hb2 B3)))
            all_goals
              go_wp2_with fail
              go_meet
              exact ⟨_, _, _, NK.out⟩
          case rest =>
            obtain ⟨g2, u2, y2, hK⟩ := hcut
            clear d0 d1 d2 d3 d4 d5 a0 a1 a2 a3 al0 hkl
            clear KC KCD
            obtain ⟨d0, d1, d2, d3, d4, d5⟩ := six_cells hK.o
            obtain ⟨⟨a0, a1, a2, a3⟩, al0⟩ := AB.out _ hK.bel
            have hkl := lt_of_block hK.o
            have KC := hid hK
            have KCD := hid (hK.below (Below.refl _ _).drew)
            clear hK
            go_wp2_with fail
            go_region_law
              (first
                | (refine step_append_lies _ (by rfl) _ _ _ (by rfl) w.heap.size 138 p0 _ 1 24 Tryz.underlying33 hp0 hx0 hx1 hx2 rfl (by omega) (.slice da i dc) i vd (by simp [Act.eval]) OB.out ⟨w2.heap.size, 0, none⟩ 1 1 [.slice ya ym yc] (by simp [Act.eval]) rfl NW.out (one_u _ rfl) (by omega) F63.out.1 F63.out.2.1 SZ.out (w2.heap.size + 1) (by simp) ?_; intro g cap w3 hown hgrow hat hlt3; have N := KI.addD (W0 := wc.drew) KCD.out BX.out OX.out hgrow (by simpa using hat) (by rw [l4.out.2]; exact hown); have NK := hid N.2; obtain ⟨r0, r1, r2, r3, r4, r5⟩ := six_cells N.1; obtain ⟨m0, m1, m2, m3, m4, m5⟩ := six_froz N.1; have hH3 := lt_of_block N.1; clear hown hgrow hat N)
                | (go_simp; go_wp2_with (go_at_call 80; refine (CD.out wc.drew KCD.out.bel).mono ?_; rintro e w2 ⟨yv, rfl, hown2, hb2⟩; obtain ⟨ya, ym, yc, rfl⟩ := row_form hown2; have K2 := hid (KCD.out.below hb2); have B3 := below1 w2 (.cells #[.slice ya ym yc] 138); have BX := hid (hb2.trans (B3.mono hb2.size)); have OX := hid (ownsRow_below hown2 B3); have OB : Hid ((w2.alloc (.cells #[.slice ya ym yc] 138)).ownsRow w.heap.size 138 1 (.slice da i dc) i vd) := hid (by have := (K2.out.below B3).rw.d.row; rw [l4.out.2] at this; exact this); have NW := hid (World.news_of_block (heap_alloc_new w2 (.cells #[.slice ya ym yc] 138))); have SZ := hid (K2.out.below B3).bel.size; obtain ⟨b0, b1, b2, b3, b4, b5⟩ := six_cells K2.out.o; obtain ⟨⟨x0, x1, x2, x3⟩, xl0⟩ := AB.out _ K2.out.bel; have hkl2 := lt_of_block K2.out.o; clear hown2 hb2 B3)))
            all_goals
              go_wp2_with fail
              go_roundg (n - (i + 1))
              case measure => omega
              case rel => exact ⟨i + 1, _, _, _, _, _, _, _, _, _, _, _, hlt, rfl, by go_num, NX, hid NK.out⟩
    · have ei : i = n := by omega
      subst ei
      have HK2 : Hid (KI w L V Q D nilV nilV vs vq vd ⟨k.leaf, k.vals, k.qs, k.ds, [], []⟩ wr) := hid (by
        have h := HK.out
        obtain ⟨t1, t2, t3, t4⟩ := HTK.out
        obtain ⟨u1, u2, u3, u4⟩ := HE.out
        rw [t1, t2, t3, t4, take_all (by rw [u1, ← HN.out]), take_all (by rw [u2, ← HN.out]), take_all (by rw [u3, ← HN.out]), take_all (by rw [u4, ← HN.out])] at h
        exact h)
      have nlt : ¬ (i : Int) < (i : Int) := by omega
      obtain ⟨⟨_, _, _, _, c4⟩, _, _⟩ := eng_cells (block_below HHH.out HK2.out.bel)
      clear HK HTK
      go_wp2_with fail
      clear c4
      go_loopg [7, 63] m (fun mm s7 ix X => ∃ (j : Nat) (EE FF : List Int) (E F : Value), j ≤ m ∧ mm = m - j ∧ ix = .int .i64 j ∧ Hid (EE = (al.map (fun x => x.2.1)).take j ∧ FF = (al.map (fun x => x.2.2)).take j) ∧ Hid (KI w L V Q D E F vs vq vd ⟨k.leaf, k.vals, k.qs, k.ds, EE, FF⟩ X))
      case atStart => exact ⟨0, [], [], _, _, Nat.zero_le _, by omega, rfl, hid ⟨by simp, by simp⟩, HK2⟩
      case round =>
        obtain ⟨j, EE, FF, E, F, hjm, rfl, rfl, HTK, HK⟩ := hrel
        by_cases hlt : j < m
        · have hlt' : (j : Int) < (m : Int) := by omega
          have hjl : j < al.length := by rw [← HM.out]; exact hlt
          obtain ⟨gX, hgX⟩ : ∃ gX, xa = some ⟨gX, 0, none⟩ := by
            obtain ⟨g, cap, e, _⟩ := World.ownsRow.form HX.out (by omega)
            simp only [Value.slice.injEq] at e
            exact ⟨g, e.1⟩
          subst hgX
          obtain ⟨⟨x0, x1⟩, x2, x3⟩ := alC_get al j hjl
          obtain ⟨z, hz⟩ : ∃ z, z = al.getD j al0 := ⟨_, rfl⟩
          rw [← hz] at x0 x1 x2 x3
          have XR : Hid (∀ Y, Below w.heap.size w Y → (Y.cell? ⟨gX, j * 4, none⟩ = some (.int .i64 z.1.1) ∧ Y.cell? ⟨gX, j * 4 + 1, none⟩ = some (.int .i64 z.1.2)) ∧ Y.cell? ⟨gX, j * 4 + 2, none⟩ = some (.int .i64 z.2.1) ∧ Y.cell? ⟨gX, j * 4 + 3, none⟩ = some (.int .i64 z.2.2)) := hid (fun Y hY => by
            have ho := ownsRow_below HX.out hY
            have r0 := World.ownsRow.cells (g := gX) ho rfl _ _ x0
            have r1 := World.ownsRow.cells (g := gX) ho rfl _ _ x1
            have r2 := World.ownsRow.cells (g := gX) ho rfl _ _ x2
            have r3 := World.ownsRow.cells (g := gX) ho rfl _ _ x3
            rw [addr_plus] at r0 r1 r2 r3
            rw [Nat.zero_add] at r0 r1 r2 r3
            exact ⟨⟨r0, r1⟩, r2, r3⟩)
          have l1 : Hid (EE.length = j ∧ FF.length = j) := hid (by obtain ⟨t1, t2⟩ := HTK.out; rw [t1, t2, List.length_take, List.length_take, List.length_map, List.length_map, ← HM.out]; omega)
          have NX : Hid (EE ++ [z.2.1] = (al.map (fun x => x.2.1)).take (j + 1) ∧ FF ++ [z.2.2] = (al.map (fun x => x.2.2)).take (j + 1)) := hid (by
            obtain ⟨t1, t2⟩ := HTK.out
            rw [take_snocA 0 (show j < (al.map (fun x => x.2.1)).length by simpa using hjl), take_snocA 0 (show j < (al.map (fun x => x.2.2)).length by simpa using hjl), t1, t2, hz]
            simp [List.getD_eq_getElem?_getD, hjl])
          obtain ⟨ea, ec, rfl⟩ := own_any HK.out.rw.e
          obtain ⟨fa, fc, rfl⟩ := own_any HK.out.rw.f
          have q1 := l1.out.1
          have q2 := l1.out.2
          have KK : Hid (KI w L V Q D (.slice ea j ec) (.slice fa j fc) vs vq vd ⟨k.leaf, k.vals, k.qs, k.ds, EE, FF⟩ wr) := hid (by have := HK.out; rw [q1, q2] at this; exact this)
          clear HK q1 q2 x0 x1 x2 x3 hz
          obtain ⟨⟨z1, z2⟩, z3, z4⟩ := z
          dsimp only at XR NX
          have F63 : Hid (j + 1 ≤ maxLen ∧ (j + 1) * 8 ≤ 140737488355328) := hid (by unfold maxLen; omega)
          obtain ⟨⟨y0, y1⟩, y2, y3⟩ := XR.out _ KK.out.bel
          obtain ⟨U1, hU1⟩ : ∃ U, U = wr.alloc (.cells #[.int .i64 z1, .int .i64 z2, .int .i64 z3, .int .i64 z4] 159) := ⟨_, rfl⟩
          have b1 : Below wr.heap.size wr U1 := by rw [hU1]; exact below1 _ _
          have bx : U1.heap[wr.heap.size]? = some (.cells #[.int .i64 z1, .int .i64 z2, .int .i64 z3, .int .i64 z4] 159 (0, 0)) := by rw [hU1]; exact heap_alloc_new _ _
          have K1 := hid (KK.out.below b1)
          have BX := hid bx
          have hgl : gX < wr.heap.size := World.block_lt_of_cell? wr _ y0
          obtain ⟨xb, hxb⟩ : ∃ xb, xb = wr.heap.size := ⟨_, rfl⟩
          have nxb : ¬ xb = w.heap.size + 1 := by have := lt_of_block KK.out.o; omega
          have nxb' : ¬ w.heap.size + 1 = xb := fun e => nxb e.symm
          rw [← hxb] at BX
          go_upto_region 13 with fail
          rw [← hU1, ← hxb]
          clear hU1 hxb y0 y1 y2 y3 KK b1 bx
          obtain ⟨⟨v0, v1⟩, v2, v3⟩ := four_c BX.out
          have hxl := lt_of_block BX.out
          obtain ⟨d0, d1, d2, d3, d4, d5⟩ := six_cells K1.out.o
          have hkl := lt_of_block K1.out.o
          have OA : Hid ((U1.alloc (.cells #[.int .i64 z3] 3)).ownsRow w.heap.size 3 1 (.slice ea j ec) j (vint EE)) := hid (by have := (K1.out.below (below1 U1 (.cells #[.int .i64 z3] 3))).rw.e; rw [show (⟨k.leaf, k.vals, k.qs, k.ds, EE, FF⟩ : KerD).left.length = j from l1.out.1] at this; exact this)
          go_upto_region 14 with (at_builtin; refine wpList_append_lies _ rfl (.tmp 68) (.tmp 71) 26 rfl w.heap.size 3 i0 (.int .i64 0) 1 8 Tryz.underlying26 hi0 hz0 hz1 hz2 rfl (by decide) (.slice ea j ec) j (vint EE) rfl OA.out ⟨U1.heap.size, 0, none⟩ 1 1 [.int .i64 z3] rfl rfl (World.news_of_block (heap_alloc_new U1 (.cells #[.int .i64 z3] 3))) (one_u _ rfl) (by omega) F63.out.1 F63.out.2 (K1.out.below (below1 U1 (.cells #[.int .i64 z3] 3))).bel.size (U1.heap.size + 1) (by simp) ?_; intro g cap w1 hown hgrow hat hlt1; have N := KI.addE (x := z3) (K1.out.below (below1 U1 (.cells #[.int .i64 z3] 3))) hgrow (by simpa using hat) (by rw [show (⟨k.leaf, k.vals, k.qs, k.ds, EE, FF⟩ : KerD).left.length = j from l1.out.1]; exact hown); have NK := hid N.2; have bx1 : Hid (w1.heap[xb]? = some (.cells #[.int .i64 z1, .int .i64 z2, .int .i64 z3, .int .i64 z4] 159 (0, 0))) := hid ((hgrow.block xb (Nat.lt_of_lt_of_le hxl (below1 U1 _).size) (fun x => own_far2 OA.out (by decide) (block_below BX.out (below1 _ _)) x.symm)).trans (block_below BX.out (below1 _ _))); obtain ⟨r0, r1, r2, r3, r4, r5⟩ := six_cells N.1; obtain ⟨m0, m1, m2, m3, m4, m5⟩ := six_froz N.1; have hH1 := lt_of_block N.1; clear hown hgrow hat N d0 d1 d2 d3 d4 d5)
          obtain ⟨W2, hW2⟩ : ∃ W, W = w1.setCell ⟨w.heap.size + 1, 4, none⟩ (.slice (some ⟨g, 0, none⟩) (j + 1) cap) := ⟨_, rfl⟩
          have K2 : Hid (KI w L V Q D (.slice (some ⟨g, 0, none⟩) (j + 1) cap) (.slice fa j fc) vs vq vd ⟨k.leaf, k.vals, k.qs, k.ds, EE ++ [z3], FF⟩ W2) := hid (by rw [hW2]; exact NK.out)
          have bx2 : Hid (W2.heap[xb]? = some (.cells #[.int .i64 z1, .int .i64 z2, .int .i64 z3, .int .i64 z4] 159 (0, 0))) := hid (by rw [hW2]; exact (Below.heap_setCell _ _ _ _ nxb).trans bx1.out)
          rw [← hW2]
          clear hW2 NK r0 r1 r2 r3 r4 r5 m0 m1 m2 m3 m4 m5 v0 v1 v2 v3 hxl hkl
          obtain ⟨⟨v0, v1⟩, v2, v3⟩ := four_c bx2.out
          have hxl := lt_of_block bx2.out
          obtain ⟨d0, d1, d2, d3, d4, d5⟩ := six_cells K2.out.o
          have hkl := lt_of_block K2.out.o
          have OF : Hid ((W2.alloc (.cells #[.int .i64 z4] 3)).ownsRow w.heap.size 3 1 (.slice fa j fc) j (vint FF)) := hid (by have := (K2.out.below (below1 W2 (.cells #[.int .i64 z4] 3))).rw.f; rw [show (⟨k.leaf, k.vals, k.qs, k.ds, EE ++ [z3], FF⟩ : KerD).every.length = j from l1.out.2] at this; exact this)
          go_wp2_with (at_builtin; refine wpList_append_lies _ rfl (.tmp 75) (.tmp 78) 26 rfl w.heap.size 3 i0 (.int .i64 0) 1 8 Tryz.underlying26 hi0 hz0 hz1 hz2 rfl (by decide) (.slice fa j fc) j (vint FF) rfl OF.out ⟨W2.heap.size, 0, none⟩ 1 1 [.int .i64 z4] rfl rfl (World.news_of_block (heap_alloc_new W2 (.cells #[.int .i64 z4] 3))) (one_u _ rfl) (by omega) F63.out.1 F63.out.2 (K2.out.below (below1 W2 (.cells #[.int .i64 z4] 3))).bel.size (W2.heap.size + 1) (by simp) ?_; intro g2 cap2 w3 hown hgrow hat hlt1; have N := KI.addF (x := z4) (K2.out.below (below1 W2 (.cells #[.int .i64 z4] 3))) hgrow (by simpa using hat) (by rw [show (⟨k.leaf, k.vals, k.qs, k.ds, EE ++ [z3], FF⟩ : KerD).every.length = j from l1.out.2]; exact hown); have NK := hid N.2; obtain ⟨r0, r1, r2, r3, r4, r5⟩ := six_cells N.1; obtain ⟨m0, m1, m2, m3, m4, m5⟩ := six_froz N.1; have hH1 := lt_of_block N.1; clear hown hgrow hat N d0 d1 d2 d3 d4 d5)
          go_roundg (m - (j + 1))
          case measure => omega
          case rel => exact ⟨j + 1, _, _, _, _, hlt, rfl, by go_num, NX, hid NK.out⟩
        · have ej : j = m := by omega
          have nlt2 : ¬ (j : Int) < (m : Int) := by omega
          have KF : Hid (KI w L V Q D E F vs vq vd k wr) := hid (by
            have h := HK.out
            obtain ⟨t1, t2⟩ := HTK.out
            obtain ⟨u1, u2⟩ := HT.out
            rw [t1, t2, ej, take_all (by rw [List.length_map]; exact HM.out.symm), take_all (by rw [List.length_map]; exact HM.out.symm), ← u1, ← u2] at h
            exact h)
          clear ej HK HTK
          obtain ⟨d0, d1, d2, d3, d4, d5⟩ := six_cells KF.out.o
          obtain ⟨m0, m1, m2, m3, m4, m5⟩ := six_froz KF.out.r
          obtain ⟨s0, s1, s2, s3, s4, s5⟩ := six_cells KF.out.r
          have hkl := lt_of_block KF.out.o
          have hrl := lt_of_block KF.out.r
          obtain ⟨la, lm, lc, rfl⟩ := row_form KF.out.rw.l
          obtain ⟨va, vm, vc, rfl⟩ := row_form KF.out.rw.v.row
          obtain ⟨qa, qm, qc, rfl⟩ := row_form KF.out.rw.q.row
          obtain ⟨da, dm, dc, rfl⟩ := row_form KF.out.rw.d.row
          obtain ⟨ea, em, ec, rfl⟩ := row_form KF.out.rw.e
          obtain ⟨fa, fm, fc, rfl⟩ := row_form KF.out.rw.f
          have S6 := hid (set6 (a := .slice la lm lc) (b := .slice va vm vc) (c := .slice qa qm qc) (d := .slice da dm dc) (e := .slice ea em ec) (f := .slice fa fm fc) KF.out.r KF.out.bel (Nat.le_refl _))
          go_wp2_with fail
          obtain ⟨q0, q1, q2, q3, q4, q5⟩ := six_cells S6.out.1
          refine bodyPost_ret (v := .agg #[.slice la lm lc, .slice va vm vc, .slice qa qm qc, .slice da dm dc, .slice ea em ec, .slice fa fm fc]) (by simp [results, Tryz.results42, go_sem, q0, q1, q2, q3, q4, q5]) rfl ?_
          exact ⟨_, _, _, _, _, _, rfl, vs, vq, vd, KF.out.rw.kp S6.out.2.1 (fun _ h => h), KF.out.far, S6.out.2.2⟩
end Go.Proofs.YthaklmdhkkfigaaGreat

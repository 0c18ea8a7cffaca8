import Derived.Test.YtiimkhepplkocaaGreatV6
import Derived.Test.YtiimkhepplkocaaGreatXb
namespace Go.Proofs.YtiimkhepplkocaaGreat
open Go.RowKit Go.Sort
set_option linter.unusedVariables false
attribute [local go_sem ↓] Go.wp_at_zero Go.wp_at_succ
theorem slice_cell {w : World} {b off n i : Nat} {zs : List Int} (h : SliceOf w (some ⟨b, off, none⟩) n zs) (hi : i < n) : w.cell? ⟨b, off + i, none⟩ = some (.int .i64 (zs.getD i 0)) := by
 obtain ⟨b', off', e, _, hc⟩ := h.2 (by omega)
 simp only [Option.some.injEq, Addr.mk.injEq] at e
 obtain ⟨rfl, rfl, _⟩ := e
 exact hc i hi
theorem slice_lt {w : World} {b off n : Nat} {zs : List Int} (h : SliceOf w (some ⟨b, off, none⟩) n zs) (hi : 0 < n) : b < w.heap.size := by
 obtain ⟨b', off', e, hl, _⟩ := h.2 hi
 simp only [Option.some.injEq, Addr.mk.injEq] at e
 rw [e.1]; exact hl
theorem cell_far {w : World} {B o H q : Nat} {v : Value} (h : H ≠ B) : (w.setCell ⟨B, o, none⟩ v).cell? ⟨H, q, none⟩ = w.cell? ⟨H, q, none⟩ := World.cell?_of_block (a := ⟨H, q, none⟩) (Below.heap_setCell _ _ _ _ h)
theorem own_set {w : World} {B g n cap i : Nat} {vs : List Int} {x : Int} (hl : vs.length = n) (h : Own w B (.slice (some ⟨g, 0, none⟩) n cap) vs) : Own (w.setCell ⟨g, i, none⟩ (.int .i64 x)) B (.slice (some ⟨g, 0, none⟩) n cap) (vs.set i x) := by
 subst hl
 have := set_stored (i := i) (n := x) h
 rwa [List.length_set] at this
theorem own_form {w : World} {B n size : Nat} {e : TypeId} {v : Value} {xs : List Value} (h : w.ownsRow B e size v n xs) (hv : v ≠ .slice none 0 0) : ∃ g cap, v = .slice (some ⟨g, 0, none⟩) n cap ∧ B ≤ g ∧ g < w.heap.size := by
 rcases h.2 with ⟨e, _⟩ | ⟨g, cap, cur, e, hb, hh, _⟩
 ·exact absurd e hv
 ·exact ⟨g, cap, e, hb, lt_of_block hh⟩
theorem own_news {w : World} {B g n cap size : Nat} {e : TypeId} {xs : List Value} (h : w.ownsRow B e size (.slice (some ⟨g, 0, none⟩) n cap) n xs) : ∀ j u, xs[j]? = some u → w.cell? ((⟨g, 0, none⟩ : Addr).add j) = some u := by
 intro j u hj
 have hj' := (List.getElem?_eq_some_iff.1 hj).1
 rw [show (⟨g, 0, none⟩ : Addr).add j = ⟨g, j, none⟩ by unfold Addr.add; split <;> simp_all, World.ownsRow.cellAt h j (by rw [← h.1]; exact hj'), hj]
theorem eff_one (es : List EffD) : ∀ u ∈ effCells es, u.oneCell' = true := by
 induction es with
 | nil => intro u hu; simp [effCells] at hu
 | cons e r ih =>
  intro u hu
  simp only [effCells, List.mem_cons] at hu
  rcases hu with rfl | rfl | rfl | rfl | h
  ·rfl
  ·rfl
  ·rfl
  ·rfl
  ·exact ih u h
theorem own_grown {w w2 : World} {B B2 size n : Nat} {v v2 : Value} {zs : List Int} {e : TypeId} {xs : List Value} (h : Own w B2 v zs) (hg : w.grownBy w2 v2.ownBlock) (ht : (3 : Nat) ≠ e) (ho : w.ownsRow B e size v2 n xs) : Own w2 B2 v zs := by
 refine ⟨ownsRow_eqb h.1 (fun b hbl hb => hg.block b hbl (fun e3 => ?_)), h.2⟩
 obtain ⟨g, cap, hv, _, _⟩ := h.form
 subst hv
 obtain ⟨cur, hcur, _⟩ := own_block h.1
 simp [Value.ownBlock] at hb
 subst hb
 exact own_far ho ht hcur e3.symm
theorem eff_single {w : World} {B : Nat} {x : EffD} (hB : B ≤ w.heap.size) : (w.alloc (.cells #[.int .i64 x.kind, .int .i64 x.a, .int .i64 x.b, .int .i64 x.v] 136)).ownsRow B 136 4 (.slice (some ⟨w.heap.size, 0, none⟩) 1 1) 1 (effCells [x]) :=
 ⟨rfl, .inr ⟨_, 1, _, rfl, hB, heap_alloc_new _ _, Nat.le_refl _, by decide, rfl, rfl⟩⟩
theorem ints_one1 (zs : List Int) : ∀ u ∈ zs.map (Value.int .i64), u.oneCell' = true := by intro u hu; simp at hu; obtain ⟨z, _, rfl⟩ := hu; rfl
set_option maxRecDepth 100000 in
set_option maxHeartbeats 4000000 in
theorem l1Exec_nil (ao : Option Addr) (c : Nat) (ko : Option Addr) (kn kc : Nat) (vA : Option Addr) (vn vc : Nat) (vs : List Int) (arg : Int) (w : World) (hvn : vn ≤ 1048576) (hv : SliceOf w vA vn vs) :
  Calls Tryz.prog 113 #[.slice ao 0 c, .slice ko kn kc, .slice vA vn vc, .int .i64 arg] w fun e w' => ∃ vv ev, e = .returned (.tuple #[vv, ev]) ∧ Own w' w.heap.size vv vs ∧ w'.ownsRow w.heap.size 136 4 ev 0 [] ∧ ev ≠ .slice none 0 0 ∧ Below w.heap.size w w' := by
 obtain ⟨i0, hi, hz0, hz1, hz2⟩ := info_parts Tryz.infoInt0
 have HV := hid hv
 have HL := hid hv.1
 clear hv
 go_enter Tryz.func113, Tryz.ntmps113
 go_wp2_with (at_builtin; refine wpList_append_opt _ rfl (.tmp 19) (.tmp 20) 30 rfl w.heap.size 3 i0 (.int .i64 0) 1 8 Tryz.underlying30 hi hz0 hz1 hz2 rfl (by decide) _ 0 [] rfl (World.ownsRow_lit w #[] 0 (Nat.le_refl _) (by decide) rfl) vA vn vc (vs.map (Value.int .i64)) rfl (by simp [HL.out]) (news_of HV.out (below1 _ _)) (ints_one1 vs) (by unfold maxLen; omega) (by omega) (by simp) ?_)
 intro v' w1 hown' hgrow hnil
 have B1 := hid ((below1 w (.cells #[] 3)).grown hgrow (by simp) (fun k hk => by simp [Value.ownBlock] at hk; omega))
 have O := hid (show Own w1 w.heap.size v' vs from ⟨by rw [HL.out]; simpa using hown', by simpa using hnil⟩)
 obtain ⟨g, cap, rfl, _, _⟩ := O.out.form
 clear hown' hgrow hnil
 go_wp2
 refine bodyPost_ret (v := .tuple #[.slice (some ⟨g, 0, none⟩) vs.length cap, .slice (some ⟨w1.heap.size, 0, none⟩) 0 0]) (by simp [results, Tryz.results113, go_sem]) rfl ?_
 exact ⟨_, _, rfl, O.out.below (below1 _ _), eff_none (new1 w1 OE) B1.out.size, by simp, B1.out.alloc B1.out.size _⟩
set_option maxRecDepth 100000 in
set_option maxHeartbeats 8000000 in
theorem l1Exec_set (b off n c : Nat) (kA : Option Addr) (kn kc : Nat) (vA : Option Addr) (vn vc : Nat) (ks vs : List Int) (arg : Int) (a : Nat) (sb : Int) (co : Option Addr) (cn cc : Nat) (q : Int) (w : World) (hn : n + 1 ≤ 1048576) (hnc : n + 1 ≤ c) (hkn : kn ≤ 32) (hvn : vn ≤ 32) (hk : SliceOf w kA kn ks) (hv : SliceOf w vA vn vs)
  (hbl : b < w.heap.size) (x1 : w.cell? ⟨b, off, none⟩ = some (.int .i64 1)) (x2 : w.cell? ⟨b, off + 1, none⟩ = some (.int .i64 a)) (x3 : w.cell? ⟨b, off + 2, none⟩ = some (.int .i64 sb)) (x4 : w.cell? ⟨b, off + 3, none⟩ = some (.slice co cn cc)) (hcn : cn ≤ 1048576)
  (hval : ∀ w', Below w.heap.size w w' → Calls Tryz.prog 112 #[.slice co cn cc, .int .i64 cn, .slice vA vn vc, .int .i64 arg] w' fun r w'' => r = .returned (.int .i64 q) ∧ Below w'.heap.size w' w'') (hqi : I64 q) (hak : a < kn) (hav : a < vn) (k1 : 1 ≤ ks.getD a 0) (k7 : ks.getD a 0 ≤ 7) (rv : List Int) (re : List EffD) (hre : re.length ≤ 1000000)
  (ad : Addr) (c' : Nat) (had : (c = 1 ∧ ad = ⟨b, off, none⟩ ∧ c' = 0) ∨ (¬ c = 1 ∧ ad = ⟨b, off + 4, none⟩ ∧ c' = c - 1)) (hrec : ∀ (g cap : Nat) (w' : World), Below w.heap.size w w' → Own w' w.heap.size (.slice (some ⟨g, 0, none⟩) vn cap) (vs.set a (conv (ks.getD a 0) q)) →
   Calls Tryz.prog 113 #[.slice (some ad) n c', .slice kA kn kc, .slice (some ⟨g, 0, none⟩) vn cap, .int .i64 arg] w' fun e w'' => ∃ lv ev, e = .returned (.tuple #[lv, ev]) ∧ Own w'' w'.heap.size lv rv ∧ w''.ownsRow w'.heap.size 136 4 ev re.length (effCells re) ∧ ev ≠ .slice none 0 0 ∧ Below w'.heap.size w' w'') :
  Calls Tryz.prog 113 #[.slice (some ⟨b, off, none⟩) (n + 1) c, .slice kA kn kc, .slice vA vn vc, .int .i64 arg] w fun e w' => ∃ lv ev, e = .returned (.tuple #[lv, ev]) ∧ Own w' w.heap.size lv rv ∧ w'.ownsRow w.heap.size 136 4 ev re.length (effCells re) ∧ ev ≠ .slice none 0 0 ∧ Below w.heap.size w w' := by
 obtain ⟨kb, ko, hkA, _, _⟩ := hk.2 (by omega)
 subst hkA
 obtain ⟨vb, vo, hvA, _, _⟩ := hv.2 (by omega)
 subst hvA
 obtain ⟨i0, hi, hz0, hz1, hz2⟩ := info_parts Tryz.infoInt0
 obtain ⟨j0, hj, hj0, hj1, hj2⟩ := info_parts Tryz.infoEff
 have nb : b ≠ w.heap.size := by omega
 have hb1 : hasB 1 = true := by decide
 obtain ⟨kq, hkq⟩ : ∃ kq, kq = ks.getD a 0 := ⟨_, rfl⟩
 rw [← hkq] at k1 k7 hrec
 have HKQ := hid hkq
 clear hkq
 obtain ⟨W, hW⟩ : ∃ W, W = w.alloc (.cells #[.int .i64 1, .int .i64 a, .int .i64 sb, .slice co cn cc] 210) := ⟨_, rfl⟩
 have VW := hid (hval W (by rw [hW]; exact below1 _ _))
 have QW : Hid (W.heap[w.heap.size]? = some (.cells #[.int .i64 1, .int .i64 a, .int .i64 sb, .slice co cn cc] 210 (0, 0))) := hid (by rw [hW]; exact heap_alloc_new _ _)
 have BW : Hid (Below w.heap.size w W) := hid (by rw [hW]; exact below1 _ _)
 have HV := hid hv
 have HL := hid hv.1
 have HKL := hid hk.1
 have HK := hid hk
 have HREC := hid hrec
 have HI := hid hqi
 have nk : (a : Int) < (kn : Int) := by omega
 have nv : (a : Int) < (vn : Int) := by omega
 rw [hW] at VW
 have HW := hid hW
 clear hv hk hrec hval hqi hW
 rcases had with ⟨hc1, rfl, rfl⟩ | ⟨hc1, rfl, rfl⟩
 all_goals
  go_enter Tryz.func113, Tryz.ntmps113
  go_wp2_with (first
   | (go_at_call 147; refine (l1HasCode_any _ _).mono ?_; rw [hb1]; rintro e w1 ⟨rfl, hw⟩; obtain rfl := hw.symm)
   | (go_at_call 112; refine VW.out.mono ?_; rintro e w2 ⟨rfl, hb⟩; rw [← HW.out] at hb; have Q2 := hid (block_below QW.out hb); have B2 := hid (BW.out.trans (hb.mono BW.out.size)); clear hb)
   | (at_builtin; refine wpList_append_opt _ rfl (.tmp 37) (.tmp 38) 30 rfl w2.heap.size 3 i0 (.int .i64 0) 1 8 Tryz.underlying30 hi hz0 hz1 hz2 rfl (by decide) _ 0 [] rfl (World.ownsRow_lit w2 #[] 0 (Nat.le_refl _) (by decide) rfl) (some ⟨vb, vo, none⟩) vn vc (vs.map (Value.int .i64)) rfl (by simp [HL.out]) (news_of HV.out (B2.out.alloc B2.out.size _)) (ints_one1 vs) (by unfold maxLen; omega) (by omega) (by simp) ?_))
  intro v' w3 hown' hgrow hnil
  have C3 := hid ((below1 w2 (.cells #[] 3)).grown hgrow (by simp) (fun k hk => by simp [Value.ownBlock] at hk; omega))
  have B3 := hid (B2.out.trans (C3.out.mono B2.out.size))
  have O3 := hid (show Own w3 w2.heap.size v' vs from ⟨by rw [HL.out]; simpa using hown', by simpa using hnil⟩)
  obtain ⟨g3, p3, hv3, hg3, hl3⟩ := O3.out.form
  rw [HL.out] at hv3
  subst hv3
  have Q3 := hid (block_below Q2.out C3.out)
  obtain ⟨y1, y2, y3, y4⟩ := quad_cells Q3.out
  have yl := lt_of_block Q3.out
  clear hown' hgrow hnil
  have kc3 : w3.cell? ⟨kb, ko + a, none⟩ = some (.int .i64 kq) := by rw [HKQ.out]; exact slice_cell (HK.out.below B3.out) hak
  have kl3 : kb < w3.heap.size := slice_lt (HK.out.below B3.out) (by omega)
  have o3r : w3.ownsRow w2.heap.size 3 1 (.slice (some ⟨g3, 0, none⟩) vn p3) vn (vs.map (Value.int .i64)) := by have := O3.out.1; rw [HL.out] at this; exact this
  have vc3 : w3.cell? ⟨g3, a, none⟩ = some (.int .i64 (vs.getD a 0)) := by
   rw [o3r.cellAt a (by omega)]
   simp [List.getD, show a < vs.length by rw [HL.out]; exact hav]
  have vf3 := o3r.frozenAt a
  have ng : ¬ (kb = g3) := by have := slice_lt HK.out (by omega : 0 < kn); have := B2.out.size; omega
  have nh : ¬ (w.heap.size = g3) := by have := lt_of_block Q2.out; omega
  clear o3r
  obtain ⟨Y, hY⟩ : ∃ Y, Y = w3.alloc (.cells #[.int .i64 1, .int .i64 a, .int .i64 sb, .int .i64 q] 136) := ⟨_, rfl⟩
  have BY : Hid (Below w3.heap.size w3 Y) := hid (by rw [hY]; exact below1 _ _)
  have HY := hid hY
  clear hY
  go_wp2_with fail
  rw [← HY.out]
  have a1 : Y.cell? ⟨w.heap.size, 1, none⟩ = some (.int .i64 a) := (BY.out.cell (p := ⟨w.heap.size, 1, none⟩) yl).trans y2
  have a2 : Y.cell? ⟨kb, ko + a, none⟩ = some (.int .i64 kq) := (BY.out.cell (p := ⟨kb, ko + a, none⟩) kl3).trans kc3
  go_region_held3 (fun w' => w'.cell? ⟨w.heap.size, 1, none⟩ = some (.int .i64 a) ∧ w'.cell? ⟨kb, ko + a, none⟩ = some (.int .i64 kq)) (first | exact SX.out | exact And.intro ((cell_far nh).trans SX.out.1) ((cell_far ng).trans SX.out.2) | go_keep)
   (first
    | (go_at_call 73; refine (l1Conv_any _ _ _ k1 k7).mono ?_; rintro e w4 ⟨rfl, hb⟩; have B4 := hid (BY.out.trans ((dn0 hb).mono BY.out.size)); have SX := hid (And.intro ((B4.out.cell (p := ⟨w.heap.size, 1, none⟩) yl).trans y2) ((B4.out.cell (p := ⟨kb, ko + a, none⟩) kl3).trans kc3)); have vc4 := (B4.out.cell (p := ⟨g3, a, none⟩) hl3).trans vc3; have vf4 := (B4.out.frozen (p := ⟨g3, a, none⟩) hl3).trans vf3; clear hb))
  all_goals
   have O5 : Hid (Own (w4.setCell ⟨g3, a, none⟩ (.int .i64 (conv kq q))) w.heap.size (.slice (some ⟨g3, 0, none⟩) vn p3) (vs.set a (conv kq q))) := hid (own_set HL.out ((O3.out.below B4.out).base B2.out.size))
   have B5 : Hid (Below w.heap.size w (w4.setCell ⟨g3, a, none⟩ (.int .i64 (conv kq q)))) := hid ((B3.out.trans (B4.out.mono B3.out.size)).setCell (show w.heap.size ≤ g3 by have := B2.out.size; omega) _)
   obtain ⟨w5, hw5⟩ : ∃ w5, w5 = w4.setCell ⟨g3, a, none⟩ (.int .i64 (conv kq q)) := ⟨_, rfl⟩
   rw [← hw5] at O5 B5 ⊢
   clear x1 x2 x3 x4 y1 y2 y3 y4 kc3 kl3 vc3 vf3 vc4 vf4 a1 a2 SX B4 hw5
   go_wp2_with (first | (go_at_call 113; refine (HREC.out g3 p3 _ (B5.out.alloc B5.out.size _) (O5.out.below (below1 _ _))).mono ?_; rintro e w6 ⟨lv, ev, rfl, ho, he, hne, hb⟩; have B6 := hid hb; have O6 := hid ho; have E6 := hid he; obtain ⟨gl, pl, hlv, _, _⟩ := ho.form; subst hlv; obtain ⟨ge, pe, hev, _, _⟩ := own_form he hne; subst hev; clear ho he hne hb) | (at_builtin; refine wpList_append_own _ rfl (.tmp 74) (.tmp 75) 52 rfl w.heap.size 136 j0 (.agg #[.int .i64 0, .int .i64 0, .int .i64 0, .int .i64 0]) 4 32 Tryz.underlying52 hj hj0 hj1 hj2 rfl (by decide) (.slice (some ⟨w5.heap.size, 0, none⟩) 0 0) 0 [] rfl (ownsRow_below (eff_none (new1 w5 OE) B5.out.size) B6.out) ⟨ge, 0, none⟩ re.length pe (effCells re) rfl (effCells_len re) (own_news E6.out) (eff_one re) (by unfold maxLen; omega) (by omega) (Nat.le_trans (B5.out.alloc B5.out.size _).size B6.out.size) ?_))
   all_goals
    intro v' w7 hown' hgrow hnil
    have B7 := hid (((B5.out.alloc B5.out.size OE).trans (B6.out.mono (B5.out.alloc B5.out.size OE).size)).grown hgrow (Nat.le_trans (B5.out.alloc B5.out.size OE).size B6.out.size) (fun k hk => by simp [Value.ownBlock] at hk; have := B5.out.size; omega))
    have G7 := hid (show w7.ownsRow w.heap.size 136 4 v' re.length (effCells re) by simpa using hown')
    have N7 := hid (show v' ≠ .slice none 0 0 from hnil)
    have O7 := hid (own_grown (O6.out.base (B5.out.alloc B5.out.size OE).size) hgrow (by decide) (B := w.heap.size) (e := 136) (ownsRow_below (eff_none (new1 w5 OE) B5.out.size) B6.out))
    obtain ⟨gv, pv, hgv, _, _⟩ := own_form G7.out N7.out
    subst hgv
    clear hown' hgrow hnil
    go_wp2
    refine bodyPost_ret (v := .tuple #[.slice (some ⟨gl, 0, none⟩) rv.length pl, .slice (some ⟨gv, 0, none⟩) re.length pv]) (by simp [results, Tryz.results113, go_sem]) rfl ?_
    exact ⟨_, _, rfl, O7.out, G7.out, N7.out, B7.out⟩
set_option maxRecDepth 100000 in
set_option maxHeartbeats 8000000 in
theorem l1Exec_eff (b off n c : Nat) (kA : Option Addr) (kn kc : Nat) (vA : Option Addr) (vn vc : Nat) (ks vs : List Int) (arg : Int) (k a : Int) (sb : Int) (co : Option Addr) (cn cc : Nat) (q : Int) (w : World) (hn : n + 1 ≤ 1048576) (hnc : n + 1 ≤ c) (hkn : kn ≤ 32) (hvn : vn ≤ 32) (hk : SliceOf w kA kn ks) (hv : SliceOf w vA vn vs)
  (hbl : b < w.heap.size) (x1 : w.cell? ⟨b, off, none⟩ = some (.int .i64 k)) (x2 : w.cell? ⟨b, off + 1, none⟩ = some (.int .i64 a)) (x3 : w.cell? ⟨b, off + 2, none⟩ = some (.int .i64 sb)) (x4 : w.cell? ⟨b, off + 3, none⟩ = some (.slice co cn cc)) (hcn : cn ≤ 1048576)
  (hval : ∀ w', Below w.heap.size w w' → Calls Tryz.prog 112 #[.slice co cn cc, .int .i64 cn, .slice vA vn vc, .int .i64 arg] w' fun r w'' => r = .returned (.int .i64 q) ∧ Below w'.heap.size w' w'') (hqi : I64 q) (hk1 : k ≠ 1) (hhb : hasB k = true) (rv : List Int) (re : List EffD) (hre : re.length ≤ 1000000)
  (ad : Addr) (c' : Nat) (had : (c = 1 ∧ ad = ⟨b, off, none⟩ ∧ c' = 0) ∨ (¬ c = 1 ∧ ad = ⟨b, off + 4, none⟩ ∧ c' = c - 1)) (hrec : ∀ (g cap : Nat) (w' : World), Below w.heap.size w w' → Own w' w.heap.size (.slice (some ⟨g, 0, none⟩) vn cap) vs →
   Calls Tryz.prog 113 #[.slice (some ad) n c', .slice kA kn kc, .slice (some ⟨g, 0, none⟩) vn cap, .int .i64 arg] w' fun e w'' => ∃ lv ev, e = .returned (.tuple #[lv, ev]) ∧ Own w'' w'.heap.size lv rv ∧ w''.ownsRow w'.heap.size 136 4 ev re.length (effCells re) ∧ ev ≠ .slice none 0 0 ∧ Below w'.heap.size w' w'') :
  Calls Tryz.prog 113 #[.slice (some ⟨b, off, none⟩) (n + 1) c, .slice kA kn kc, .slice vA vn vc, .int .i64 arg] w fun e w' => ∃ lv ev, e = .returned (.tuple #[lv, ev]) ∧ Own w' w.heap.size lv rv ∧ w'.ownsRow w.heap.size 136 4 ev (⟨k, a, sb, q⟩ :: re).length (effCells (⟨k, a, sb, q⟩ :: re)) ∧ ev ≠ .slice none 0 0 ∧ Below w.heap.size w w' := by
 obtain ⟨i0, hi, hz0, hz1, hz2⟩ := info_parts Tryz.infoInt0
 obtain ⟨j0, hj, hj0, hj1, hj2⟩ := info_parts Tryz.infoEff
 have nb : b ≠ w.heap.size := by omega
 obtain ⟨hb, hbh⟩ : ∃ x, x = hasB k := ⟨_, rfl⟩
 have kz : (k == 1) = false := by simpa using hk1
 obtain ⟨W, hW⟩ : ∃ W, W = w.alloc (.cells #[.int .i64 k, .int .i64 a, .int .i64 sb, .slice co cn cc] 210) := ⟨_, rfl⟩
 have VW := hid (hval W (by rw [hW]; exact below1 _ _))
 have QW : Hid (W.heap[w.heap.size]? = some (.cells #[.int .i64 k, .int .i64 a, .int .i64 sb, .slice co cn cc] 210 (0, 0))) := hid (by rw [hW]; exact heap_alloc_new _ _)
 have BW : Hid (Below w.heap.size w W) := hid (by rw [hW]; exact below1 _ _)
 have HV := hid hv
 have HL := hid hv.1
 have HK := hid hk
 have HREC := hid hrec
 rw [hW] at VW
 have HW := hid hW
 clear hv hk hrec hval hqi hW hbh hb
 rcases had with ⟨hc1, rfl, rfl⟩ | ⟨hc1, rfl, rfl⟩
 all_goals
  go_enter Tryz.func113, Tryz.ntmps113
  go_wp2_with (first
   | (go_at_call 147; refine (l1HasCode_any _ _).mono ?_; rw [hhb]; rintro e w1 ⟨rfl, hw⟩; obtain rfl := hw.symm)
   | (go_at_call 112; refine VW.out.mono ?_; rintro e w2 ⟨rfl, hb⟩; rw [← HW.out] at hb; have Q2 := hid (block_below QW.out hb); have B2 := hid (BW.out.trans (hb.mono BW.out.size)); clear hb)
   | (at_builtin; refine wpList_append_opt _ rfl (.tmp 37) (.tmp 38) 30 rfl w2.heap.size 3 i0 (.int .i64 0) 1 8 Tryz.underlying30 hi hz0 hz1 hz2 rfl (by decide) _ 0 [] rfl (World.ownsRow_lit w2 #[] 0 (Nat.le_refl _) (by decide) rfl) vA vn vc (vs.map (Value.int .i64)) rfl (by simp [HL.out]) (news_of HV.out (B2.out.alloc B2.out.size _)) (ints_one1 vs) (by unfold maxLen; omega) (by omega) (by simp) ?_))
  intro v' w3 hown' hgrow hnil
  have C3 := hid ((below1 w2 (.cells #[] 3)).grown hgrow (by simp) (fun k hk => by simp [Value.ownBlock] at hk; omega))
  have B3 := hid (B2.out.trans (C3.out.mono B2.out.size))
  have O3 := hid (show Own w3 w2.heap.size v' vs from ⟨by rw [HL.out]; simpa using hown', by simpa using hnil⟩)
  obtain ⟨g3, p3, hv3, hg3, hl3⟩ := O3.out.form
  rw [HL.out] at hv3
  subst hv3
  have Q3 := hid (block_below Q2.out C3.out)
  obtain ⟨y1, y2, y3, y4⟩ := quad_cells Q3.out
  have yl := lt_of_block Q3.out
  clear hown' hgrow hnil x1 x2 x3 x4
  obtain ⟨w5, hw5⟩ : ∃ w5, w5 = w3.alloc (.cells #[.int .i64 k, .int .i64 a, .int .i64 sb, .int .i64 q] 136) := ⟨_, rfl⟩
  have B5 : Hid (Below w.heap.size w w5) := hid (by rw [hw5]; exact B3.out.alloc B3.out.size _)
  have O5 : Hid (Own w5 w.heap.size (.slice (some ⟨g3, 0, none⟩) vn p3) vs) := hid (by rw [hw5]; exact (O3.out.base B2.out.size).below (below1 _ _))
  have F5 : Hid (w5.ownsRow w.heap.size 136 4 (.slice (some ⟨w3.heap.size, 0, none⟩) 1 1) 1 (effCells [⟨k, a, sb, q⟩])) := hid (by rw [hw5]; exact eff_single B3.out.size)
  have HW5 := hid hw5
  have RW : Hid (w3.alloc (.cells #[.int .i64 k, .int .i64 a, .int .i64 sb, .int .i64 q] 136) = w5) := hid hw5.symm
  rw [hw5] at B5 O5 F5
  clear hw5
  go_wp2_with (first
   | (go_at_call 113; refine (HREC.out g3 p3 _ B5.out O5.out).mono ?_; rintro e w6 ⟨lv, ev, rfl, ho, he, hne, hb⟩; have B6 := hid hb; have O6 := hid ho; have E6 := hid he; obtain ⟨gl, pl, hlv, _, _⟩ := ho.form; subst hlv; obtain ⟨ge, pe, hev, _, _⟩ := own_form he hne; subst hev; clear ho he hne hb)
   | (at_builtin; refine wpList_append_own _ rfl (.tmp 74) (.tmp 75) 52 rfl w.heap.size 136 j0 (.agg #[.int .i64 0, .int .i64 0, .int .i64 0, .int .i64 0]) 4 32 Tryz.underlying52 hj hj0 hj1 hj2 rfl (by decide) (.slice (some ⟨w3.heap.size, 0, none⟩) 1 1) 1 (effCells [⟨k, a, sb, q⟩]) rfl (ownsRow_below F5.out B6.out) ⟨ge, 0, none⟩ re.length pe (effCells re) rfl (effCells_len re) (own_news E6.out) (eff_one re) (by unfold maxLen; omega) (by omega) (Nat.le_trans B5.out.size B6.out.size) ?_))
  intro v' w7 hown' hgrow hnil
  have B7 := hid ((B5.out.trans (B6.out.mono B5.out.size)).grown hgrow (Nat.le_trans B5.out.size B6.out.size) (fun k hk => by simp [Value.ownBlock] at hk; have := B3.out.size; omega))
  have G7 := hid (show w7.ownsRow w.heap.size 136 4 v' (1 + re.length) (effCells [⟨k, a, sb, q⟩] ++ effCells re) from hown')
  have N7 := hid (show v' ≠ .slice none 0 0 from hnil)
  have O7 := hid (own_grown (O6.out.base B5.out.size) hgrow (by decide) (ownsRow_below F5.out B6.out))
  obtain ⟨gv, pv, hgv, _, _⟩ := own_form G7.out N7.out
  subst hgv
  clear hown' hgrow hnil
  go_wp2
  refine bodyPost_ret (v := .tuple #[.slice (some ⟨gl, 0, none⟩) rv.length pl, .slice (some ⟨gv, 0, none⟩) (1 + re.length) pv]) (by simp [results, Tryz.results113, go_sem]) rfl ?_
  exact ⟨_, _, rfl, O7.out, by rw [show re.length + 1 = 1 + re.length from Nat.add_comm _ _]; exact G7.out, N7.out, B7.out⟩
set_option maxRecDepth 100000 in
set_option maxHeartbeats 8000000 in
theorem l1Exec_plain (b off n c : Nat) (kA : Option Addr) (kn kc : Nat) (vA : Option Addr) (vn vc : Nat) (ks vs : List Int) (arg : Int) (k a : Int) (sb : Int) (co : Option Addr) (cn cc : Nat) (q : Int) (w : World) (hn : n + 1 ≤ 1048576) (hnc : n + 1 ≤ c) (hkn : kn ≤ 32) (hvn : vn ≤ 32) (hk : SliceOf w kA kn ks) (hv : SliceOf w vA vn vs)
  (hbl : b < w.heap.size) (x1 : w.cell? ⟨b, off, none⟩ = some (.int .i64 k)) (x2 : w.cell? ⟨b, off + 1, none⟩ = some (.int .i64 a)) (x3 : w.cell? ⟨b, off + 2, none⟩ = some (.int .i64 sb)) (x4 : w.cell? ⟨b, off + 3, none⟩ = some (.slice co cn cc)) (hcn : cn ≤ 1048576)
  (hq0 : q = 0) (hk1 : k ≠ 1) (hhb : hasB k = false) (rv : List Int) (re : List EffD) (hre : re.length ≤ 1000000)
  (ad : Addr) (c' : Nat) (had : (c = 1 ∧ ad = ⟨b, off, none⟩ ∧ c' = 0) ∨ (¬ c = 1 ∧ ad = ⟨b, off + 4, none⟩ ∧ c' = c - 1)) (hrec : ∀ (g cap : Nat) (w' : World), Below w.heap.size w w' → Own w' w.heap.size (.slice (some ⟨g, 0, none⟩) vn cap) vs →
   Calls Tryz.prog 113 #[.slice (some ad) n c', .slice kA kn kc, .slice (some ⟨g, 0, none⟩) vn cap, .int .i64 arg] w' fun e w'' => ∃ lv ev, e = .returned (.tuple #[lv, ev]) ∧ Own w'' w'.heap.size lv rv ∧ w''.ownsRow w'.heap.size 136 4 ev re.length (effCells re) ∧ ev ≠ .slice none 0 0 ∧ Below w'.heap.size w' w'') :
  Calls Tryz.prog 113 #[.slice (some ⟨b, off, none⟩) (n + 1) c, .slice kA kn kc, .slice vA vn vc, .int .i64 arg] w fun e w' => ∃ lv ev, e = .returned (.tuple #[lv, ev]) ∧ Own w' w.heap.size lv rv ∧ w'.ownsRow w.heap.size 136 4 ev (⟨k, a, sb, q⟩ :: re).length (effCells (⟨k, a, sb, q⟩ :: re)) ∧ ev ≠ .slice none 0 0 ∧ Below w.heap.size w w' := by
 obtain ⟨i0, hi, hz0, hz1, hz2⟩ := info_parts Tryz.infoInt0
 obtain ⟨j0, hj, hj0, hj1, hj2⟩ := info_parts Tryz.infoEff
 have nb : b ≠ w.heap.size := by omega
 obtain ⟨hb, hbh⟩ : ∃ x, x = hasB k := ⟨_, rfl⟩
 have kz : (k == 1) = false := by simpa using hk1
 obtain ⟨W, hW⟩ : ∃ W, W = w.alloc (.cells #[.int .i64 k, .int .i64 a, .int .i64 sb, .slice co cn cc] 210) := ⟨_, rfl⟩
 have QW : Hid (W.heap[w.heap.size]? = some (.cells #[.int .i64 k, .int .i64 a, .int .i64 sb, .slice co cn cc] 210 (0, 0))) := hid (by rw [hW]; exact heap_alloc_new _ _)
 have BW : Hid (Below w.heap.size w W) := hid (by rw [hW]; exact below1 _ _)
 have HV := hid hv
 have HL := hid hv.1
 have HK := hid hk
 have HREC := hid hrec
 have HQ0 := hid hq0
 have HW := hid hW
 clear hv hk hrec hq0 hW hbh hb
 rcases had with ⟨hc1, rfl, rfl⟩ | ⟨hc1, rfl, rfl⟩
 all_goals
  go_enter Tryz.func113, Tryz.ntmps113
  obtain ⟨w2, hw2⟩ : ∃ w2, w2 = W := ⟨_, rfl⟩
  have Q2 : Hid (w2.heap[w.heap.size]? = some (.cells #[.int .i64 k, .int .i64 a, .int .i64 sb, .slice co cn cc] 210 (0, 0))) := hid (by rw [hw2]; exact QW.out)
  have B2 : Hid (Below w.heap.size w w2) := hid (by rw [hw2]; exact BW.out)
  have HW2 : Hid (w.alloc (.cells #[.int .i64 k, .int .i64 a, .int .i64 sb, .slice co cn cc] 210) = w2) := hid (by rw [hw2]; exact HW.out.symm)
  clear hw2
  go_wp2_with (first
   | (go_at_call 147; refine (l1HasCode_any _ _).mono ?_; rw [hhb]; rintro e w1 ⟨rfl, hw⟩; rw [HW2.out] at hw; obtain rfl := hw.symm)
   | (at_builtin; refine wpList_append_opt _ rfl (.tmp 37) (.tmp 38) 30 rfl w2.heap.size 3 i0 (.int .i64 0) 1 8 Tryz.underlying30 hi hz0 hz1 hz2 rfl (by decide) _ 0 [] rfl (World.ownsRow_lit w2 #[] 0 (Nat.le_refl _) (by decide) rfl) vA vn vc (vs.map (Value.int .i64)) rfl (by simp [HL.out]) (news_of HV.out (B2.out.alloc B2.out.size _)) (ints_one1 vs) (by unfold maxLen; omega) (by omega) (by simp) ?_))
  intro v' w3 hown' hgrow hnil
  have C3 := hid ((below1 w2 (.cells #[] 3)).grown hgrow (by simp) (fun k hk => by simp [Value.ownBlock] at hk; omega))
  have B3 := hid (B2.out.trans (C3.out.mono B2.out.size))
  have O3 := hid (show Own w3 w2.heap.size v' vs from ⟨by rw [HL.out]; simpa using hown', by simpa using hnil⟩)
  obtain ⟨g3, p3, hv3, hg3, hl3⟩ := O3.out.form
  rw [HL.out] at hv3
  subst hv3
  have Q3 := hid (block_below Q2.out C3.out)
  obtain ⟨y1, y2, y3, y4⟩ := quad_cells Q3.out
  have yl := lt_of_block Q3.out
  clear hown' hgrow hnil x1 x2 x3 x4
  obtain ⟨w5, hw5⟩ : ∃ w5, w5 = w3.alloc (.cells #[.int .i64 k, .int .i64 a, .int .i64 sb, .int .i64 0] 136) := ⟨_, rfl⟩
  have B5 : Hid (Below w.heap.size w w5) := hid (by rw [hw5]; exact B3.out.alloc B3.out.size _)
  have O5 : Hid (Own w5 w.heap.size (.slice (some ⟨g3, 0, none⟩) vn p3) vs) := hid (by rw [hw5]; exact (O3.out.base B2.out.size).below (below1 _ _))
  have F5 : Hid (w5.ownsRow w.heap.size 136 4 (.slice (some ⟨w3.heap.size, 0, none⟩) 1 1) 1 (effCells [⟨k, a, sb, 0⟩])) := hid (by rw [hw5]; exact eff_single B3.out.size)
  have HW5 := hid hw5
  have RW : Hid (w3.alloc (.cells #[.int .i64 k, .int .i64 a, .int .i64 sb, .int .i64 0] 136) = w5) := hid hw5.symm
  rw [hw5] at B5 O5 F5
  clear hw5
  go_wp2_with (first
   | (go_at_call 113; refine (HREC.out g3 p3 _ B5.out O5.out).mono ?_; rintro e w6 ⟨lv, ev, rfl, ho, he, hne, hb⟩; have B6 := hid hb; have O6 := hid ho; have E6 := hid he; obtain ⟨gl, pl, hlv, _, _⟩ := ho.form; subst hlv; obtain ⟨ge, pe, hev, _, _⟩ := own_form he hne; subst hev; clear ho he hne hb)
   | (at_builtin; refine wpList_append_own _ rfl (.tmp 74) (.tmp 75) 52 rfl w.heap.size 136 j0 (.agg #[.int .i64 0, .int .i64 0, .int .i64 0, .int .i64 0]) 4 32 Tryz.underlying52 hj hj0 hj1 hj2 rfl (by decide) (.slice (some ⟨w3.heap.size, 0, none⟩) 1 1) 1 (effCells [⟨k, a, sb, 0⟩]) rfl (ownsRow_below F5.out B6.out) ⟨ge, 0, none⟩ re.length pe (effCells re) rfl (effCells_len re) (own_news E6.out) (eff_one re) (by unfold maxLen; omega) (by omega) (Nat.le_trans B5.out.size B6.out.size) ?_))
  intro v' w7 hown' hgrow hnil
  have B7 := hid ((B5.out.trans (B6.out.mono B5.out.size)).grown hgrow (Nat.le_trans B5.out.size B6.out.size) (fun k hk => by simp [Value.ownBlock] at hk; have := B3.out.size; omega))
  have G7 := hid (show w7.ownsRow w.heap.size 136 4 v' (1 + re.length) (effCells [⟨k, a, sb, 0⟩] ++ effCells re) from hown')
  have N7 := hid (show v' ≠ .slice none 0 0 from hnil)
  have O7 := hid (own_grown (O6.out.base B5.out.size) hgrow (by decide) (ownsRow_below F5.out B6.out))
  obtain ⟨gv, pv, hgv, _, _⟩ := own_form G7.out N7.out
  subst hgv
  clear hown' hgrow hnil
  go_wp2
  refine bodyPost_ret (v := .tuple #[.slice (some ⟨gl, 0, none⟩) rv.length pl, .slice (some ⟨gv, 0, none⟩) (1 + re.length) pv]) (by simp [results, Tryz.results113, go_sem]) rfl ?_
  exact ⟨_, _, rfl, O7.out, by rw [show re.length + 1 = 1 + re.length from Nat.add_comm _ _, HQ0.out]; exact G7.out, N7.out, B7.out⟩
end Go.Proofs.YtiimkhepplkocaaGreat

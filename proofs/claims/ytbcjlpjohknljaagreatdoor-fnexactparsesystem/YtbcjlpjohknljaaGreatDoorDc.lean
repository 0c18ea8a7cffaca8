import Derived.Test.YtbcjlpjohknljaaGreatDoorDb
import Derived.Test.YtbcjlpjohknljaaGreatDoorZ0
namespace Go.Proofs.YtbcjlpjohknljaaGreatDoor
open Go.RowKit Go.Sort
set_option linter.unusedVariables false
set_option linter.unusedSimpArgs false
attribute [local go_sem ↓] Go.wp_at_zero Go.wp_at_succ

set_option maxRecDepth 100000 in
set_option maxHeartbeats 6400000 in
/-- A line that gives a subscription. -/
theorem readSub_any {w : World} {B F Q : Nat} {G : SyG} {bg : Bool} {X : List Rw} {fs : List (List UInt8)} (h : St w B F fs false (rdB Q G bg :: (G.rows ++ X))) (hz : SmD G.dat 1048575) (hbg : bg = false → G.dat.obs = []) : Calls Tryz.prog 47 #[.pointer (some ⟨Q, 0, none⟩), .pointer (some ⟨F, 0, none⟩)] w fun e w' => RdR B F Q G bg X kSub fs w e w' := by
  obtain ⟨eo, ec, xo, xc, hev, hxv⟩ := SyG.form h.flat.tail
  obtain ⟨sg, ⟨ov, os⟩, ⟨tv, ts⟩⟩ := G
  simp only at hev hxv
  subst hev hxv
  have OL : os.length ≤ 1048575 := by have := hz.o; simpa [SyG.dat] using this
  have TL : ts.length ≤ 1048575 := by have := hz.t; simpa [SyG.dat] using this
  have HZ := hid hz
  have HBG := hid hbg
  obtain ⟨⟨q0, q1, q2, q3⟩, y0, y1, y2, y3, yl⟩ := four_cb (box_blk h.head)
  simp only at q0 q1 q2 q3
  obtain ⟨i0, hi, hz0, hz1, hz2⟩ := info_parts Tryz.infoI
  have C := hid ((h.perm (L' := (ObsG.mk (.slice eo os.length ec) os).rows ++ (rdB Q (SyG.mk sg ⟨.slice eo os.length ec, os⟩ ⟨.slice xo ts.length xc, ts⟩) bg :: (TmG.mk (.slice xo ts.length xc) ts).row :: X)) (by refine perm_count fun f g hf => ?_; simp only [hf.c, hf.a, hf.z, rdB, SyG.rows, ObsG.rows, ObsG.row, ObG.rows, InG.row, StsG.rows, TrsG.rows, StsG.row, TrsG.row, TmG.row, StG.rows, TrG.rows, SmG.rows, CdG.row, SmsG.rows, SmsG.row, itC_append, itC, List.map_append, List.map_cons, List.map_nil, List.flatMap_append, List.flatMap_cons, List.flatMap_nil, List.append_nil, List.nil_append, List.length_append, List.length_cons, List.length_nil, Nat.zero_add, List.cons_append, List.append_assoc, ObG.cells, StG.cells, TrG.cells, SmG.cells]; try omega)).latO (by omega))
  clear h
  go_enter Tryz.func47, Tryz.ntmps47
  go_upto_region 1 with (go_at_call 73; with_reducible refine C.out.mono ?_; rintro e w1 ⟨go, co, pp, o, M, rfl, h1, b1, hpp, hor⟩; have H1 := hid h1; have B1 := hid b1; have OR := hid hor; clear h1 b1 hor)
  have SO : Hid (SmO o.dat 1048575) := hid (by
    rcases OR.out with ⟨e, _⟩ | ⟨_, _, e, _⟩
    · exact HZ.out.a _ (by rw [e]; simp [SyG.dat])
    · rw [e]; exact ⟨by simp [obZ, ObG.dat], by simp [obZ, ObG.dat], by simp [obZ, ObG.dat], by simp [obZ, ObG.dat], by simp [obZ, ObG.dat], by simp [obZ, ObG.dat], by simp [obZ, ObG.dat]⟩)
  obtain ⟨pO, qO, dO, ⟨kv, ks⟩, ⟨vv, vs⟩, ⟨uv, us⟩, ⟨sv, ss⟩, ⟨rv, rs⟩⟩ := o
  obtain ⟨ka, kc, hkv, _, _, _⟩ := ints_read (H1.out.own (r := (InG.mk kv ks).row) (by simp [ObG.rows]))
  obtain ⟨va, vc, hvv, _, _, _⟩ := ints_read (H1.out.own (r := (InG.mk vv vs).row) (by simp [ObG.rows]))
  obtain ⟨ua, uc, huv, _, _, _⟩ := ints_read (H1.out.own (r := (InG.mk uv us).row) (by simp [ObG.rows]))
  obtain ⟨sa, sc, hsv, _, _, _⟩ := row_read StG.cells 4 (fun _ => rfl) (H1.out.own (r := (StsG.mk sv ss).row) (by simp [ObG.rows, StsG.rows]))
  obtain ⟨ra, rc, hrv, _, _, _⟩ := row_read TrG.cells 5 (fun _ => rfl) (H1.out.own (r := (TrsG.mk rv rs).row) (by simp [ObG.rows, TrsG.rows]))
  simp only [InG.row, StsG.row, TrsG.row] at hkv hvv huv hsv hrv
  subst hkv hvv huv hsv hrv
  have UL : us.length ≤ 1048575 := SO.out.u
  have SW : Hid (St w1 B F fs (false || os.isEmpty) ((InG.mk (.slice ua us.length uc) us).row :: (ObsG.mk (.slice (some ⟨go, 0, none⟩) (pp.length + 1) co) (pp ++ [(ObG.mk pO qO dO ⟨.slice ka ks.length kc, ks⟩ ⟨.slice va vs.length vc, vs⟩ ⟨.slice ua us.length uc, us⟩ ⟨.slice sa ss.length sc, ss⟩ ⟨.slice ra rs.length rc, rs⟩)])).row :: ((InG.mk (.slice ka ks.length kc) ks).row :: (InG.mk (.slice va vs.length vc) vs).row :: ((StsG.mk (.slice sa ss.length sc) ss).rows ++ ((TrsG.mk (.slice ra rs.length rc) rs).rows ++ M))))) := hid (H1.out.perm (by refine perm_count fun f g hf => ?_; simp only [hf.c, hf.a, hf.z, rdB, SyG.rows, ObsG.rows, ObsG.row, ObG.rows, InG.row, StsG.rows, TrsG.rows, StsG.row, TrsG.row, TmG.row, StG.rows, TrG.rows, SmG.rows, CdG.row, SmsG.rows, SmsG.row, itC_append, itC, List.map_append, List.map_cons, List.map_nil, List.flatMap_append, List.flatMap_cons, List.flatMap_nil, List.append_nil, List.nil_append, List.length_append, List.length_cons, List.length_nil, Nat.zero_add, List.cons_append, List.append_assoc, ObG.cells, StG.cells, TrG.cells, SmG.cells]; try omega))
  clear H1 C q0 q1 q2 q3 y0 y1 y2 y3 yl
  have CS : Hid (∀ (X : World) (fs0 : List (List UInt8)) (bd0 : Bool) (T : List Rw), St X B F fs0 bd0 ((ObsG.mk (.slice (some ⟨go, 0, none⟩) (pp.length + 1) co) (pp ++ [(ObG.mk pO qO dO ⟨.slice ka ks.length kc, ks⟩ ⟨.slice va vs.length vc, vs⟩ ⟨.slice ua us.length uc, us⟩ ⟨.slice sa ss.length sc, ss⟩ ⟨.slice ra rs.length rc, rs⟩)])).row :: T) → X.cell? ⟨go, pp.length * 8 + 5, none⟩ = some (.slice ua us.length uc)) := hid (fun X _ _ _ hX => ob_cell hX.head 5 (by omega))
  have KD : Hid (w1.drew.cell? ⟨go, pp.length * 8 + 5, none⟩ = some (.slice ua us.length uc)) := hid (CS.out _ _ _ _ SW.out.tail.drew)
  have CC := hid SW.out.drew.number
  refine wp_region_noPanic ?_
  refine wp_region_till (st := 11) (S := fun u => u.cell? ⟨go, pp.length * 8 + 5, none⟩ = some (.slice ua us.length uc)) (by kernel_rfl) ?_
  refine wpTill_take (i := 0) (d := some 12) (v := ?_) rfl rfl (by kernel_rfl) (by kernel_rfl) (by kernel_rfl) (by kernel_rfl) (by kernel_rfl) (fun _ _ _ h => h) (Or.inl ⟨by rfl, ?_⟩) KD.out ?_
  case refine_2 => (intro u hu; obtain s0 := hu; go_simp; first | done | with_reducible rfl)
  simp only [Act.put, List.setIfInBounds_toArray, List.set_cons_zero, List.set_cons_succ]
  refine wpTill_take (i := 1) (d := some 13) (v := ?_) rfl rfl (by kernel_rfl) (by kernel_rfl) (by kernel_rfl) (by kernel_rfl) (by kernel_rfl) (fun _ _ _ h => h) (Or.inl ⟨by rfl, ?_⟩) KD.out ?_
  case refine_2 => (intro u hu; obtain s0 := hu; go_simp; first | done | with_reducible rfl)
  simp only [Act.put, List.setIfInBounds_toArray, List.set_cons_zero, List.set_cons_succ]
  refine wpTill_take (i := 2) (d := some 14) (v := ?_) rfl rfl (by kernel_rfl) (by kernel_rfl) (by kernel_rfl) (by kernel_rfl) (by kernel_rfl) (fun _ _ _ h => h) (Or.inl ⟨by rfl, ?_⟩) KD.out ?_
  case refine_2 => (intro u hu; obtain s0 := hu; go_simp; first | done | with_reducible rfl)
  simp only [Act.put, List.setIfInBounds_toArray, List.set_cons_zero, List.set_cons_succ]
  refine wpTill_take (i := 3) (d := some 15) (v := ?_) rfl rfl (by kernel_rfl) (by kernel_rfl) (by kernel_rfl) (by kernel_rfl) (by kernel_rfl) (fun _ _ _ h => h) (Or.inl ⟨by rfl, ?_⟩) KD.out ?_
  case refine_2 => (intro u hu; obtain s0 := hu; go_simp; first | done | with_reducible rfl)
  simp only [Act.put, List.setIfInBounds_toArray, List.set_cons_zero, List.set_cons_succ]
  refine wpTill_take (i := 4) (d := some 16) (v := ?_) rfl rfl (by kernel_rfl) (by kernel_rfl) (by kernel_rfl) (by kernel_rfl) (by kernel_rfl) (fun _ _ _ h => h) (Or.inl ⟨by rfl, ?_⟩) KD.out ?_
  case refine_2 => (intro u hu; obtain s0 := hu; go_simp; first | done | with_reducible rfl)
  simp only [Act.put, List.setIfInBounds_toArray, List.set_cons_zero, List.set_cons_succ]
  refine wpTill_take (i := 5) (d := some 17) (v := ?_) rfl rfl (by kernel_rfl) (by kernel_rfl) (by kernel_rfl) (by kernel_rfl) (by kernel_rfl) (fun _ _ _ h => h) (Or.inl ⟨by rfl, ?_⟩) KD.out ?_
  case refine_2 => (intro u hu; obtain s0 := hu; go_simp; first | done | with_reducible rfl)
  simp only [Act.put, List.setIfInBounds_toArray, List.set_cons_zero, List.set_cons_succ]
  refine wpTill_step (i := 6) (by kernel_rfl) rfl (fun K hK => ?_)
  go_simp
  go_wp2_with (go_at_call 71; with_reducible refine CC.out.mono ?_; rintro e w6 ⟨rfl, h6, b6⟩; have H6 := hid h6; have B6 := hid b6; clear h6 b6)
  have K6 := hid (CS.out w6 _ _ _ H6.out.tail)
  refine hK _ _ K6.out ?_
  clear hK K
  obtain ⟨U, hU⟩ : ∃ U, U = (w6.alloc (.cells #[.int .i64 (rdN fs)] 3)) := ⟨_, rfl⟩
  have BU : Hid (Below w6.heap.size w6 U) := hid (by rw [hU]; exact (below1 _ _))
  have HU := hid (H6.out.new BU.out)
  have KU := hid (CS.out U _ _ _ HU.out.tail)
  have NWU : Hid (∀ j u, [.int .i64 (rdN fs)][j]? = some u → U.cell? ((⟨w6.heap.size, 0, none⟩ : Addr).add j) = some u) := hid (World.news_of_block (cs := #[.int .i64 (rdN fs)]) (by rw [hU]; exact heap_alloc_new w6 _))
  refine wpTill_step (i := 7) (by kernel_rfl) rfl (fun K hK => ?_)
  go_simp
  rw [← hU]
  refine hK _ _ KU.out ?_
  clear hU hK K
  refine wpTill_step (i := 8) (by kernel_rfl) rfl (fun K hK => ?_)
  refine step_append_lies _ (by rfl) _ _ _ (by rfl) B 3 i0 _ 1 8 Tryz.underlying46 hi hz0 hz1 hz2 rfl (by omega) (.slice ua us.length uc) us.length (us.map (Value.int .i64)) (by simp [Act.eval]) HU.out.head ⟨w6.heap.size, 0, none⟩ 1 1 [.int .i64 (rdN fs)] (by simp [Act.eval]) (by simp) NWU.out (one_int _) (by omega) (by unfold maxLen; omega) (by omega) HU.out.hi U.heap.size rfl ?_
  intro gg cap5 w5 hown hgrow hat hlt5
  have H5 := hid (HU.out.app hgrow hown hat)
  have B5 := hid (HU.out.bapp hgrow)
  have K5 := hid (CS.out w5 _ _ _ H5.out.tail)
  clear hown hgrow hat
  refine hK _ _ K5.out ?_
  clear hK K
  refine wpTill_step (i := 9) (by kernel_rfl) rfl (fun K hK => ?_)
  go_simp
  refine hK _ _ K5.out ?_
  clear hK K
  refine wpTill_step (i := 10) (by kernel_rfl) rfl (fun K hK => ?_)
  go_simp
  refine hK _ _ K5.out ?_
  clear hK K
  obtain c5 := K5.out
  obtain ⟨fz5, fl5⟩ := ob_froz H5.out.tail.head (pp.length * 8 + 5)
  refine wpTill_last (by kernel_rfl) rfl (by kernel_rfl) (fun K hK => ?_)
  go_simp
  refine hK _ _ ?_
  clear hK K
  refine wpTill_done (by kernel_rfl) ?_ _
  refine NoPanic.normal ?_
  have H7 : Hid (St (w5.setCell ⟨go, pp.length * 8 + 5, none⟩ (.slice (some ⟨gg, 0, none⟩) (us.length + 1) cap5)) B F fs.tail ((false || os.isEmpty) || !okN fs) ((ObsG.mk (.slice (some ⟨go, 0, none⟩) (pp.length + 1) co) (pp ++ [(ObG.mk pO qO dO ⟨.slice ka ks.length kc, ks⟩ ⟨.slice va vs.length vc, vs⟩ ⟨(.slice (some ⟨gg, 0, none⟩) (us.length + 1) cap5), us ++ [rdN fs]⟩ ⟨.slice sa ss.length sc, ss⟩ ⟨.slice ra rs.length rc, rs⟩)])).row :: (⟨3, 1, (.slice (some ⟨gg, 0, none⟩) (us.length + 1) cap5), us.length + 1, us.map (Value.int .i64) ++ [.int .i64 (rdN fs)]⟩ : Rw) :: ((InG.mk (.slice ka ks.length kc) ks).row :: (InG.mk (.slice va vs.length vc) vs).row :: ((StsG.mk (.slice sa ss.length sc) ss).rows ++ ((TrsG.mk (.slice ra rs.length rc) rs).rows ++ M))))) := hid ((H5.out.perm (.swap _ _ _)).obSet (o' := (ObG.mk pO qO dO ⟨.slice ka ks.length kc, ks⟩ ⟨.slice va vs.length vc, vs⟩ ⟨(.slice (some ⟨gg, 0, none⟩) (us.length + 1) cap5), us ++ [rdN fs]⟩ ⟨.slice sa ss.length sc, ss⟩ ⟨.slice ra rs.length rc, rs⟩)) 5 (.slice (some ⟨gg, 0, none⟩) (us.length + 1) cap5) (by omega) rfl)
  have B7 := hid ((((B1.out.trans (SW.out.bnew (Below.refl _ _).drew)).trans B6.out).trans (H6.out.bnew BU.out)).trans (B5.out.trans ((H5.out.perm (.swap _ _ _)).bobSet (pp.length * 8 + 5) (.slice (some ⟨gg, 0, none⟩) (us.length + 1) cap5))))
  clear H5 H6 HU K5 K6 KU KD CS CC NWU B5 B6 BU c5 fz5 fl5
  clear B1 SW
  go_wp2_with fail
  go_end0
  rcases OR.out with ⟨e, hv, hM⟩ | ⟨e, e2, e3, e4⟩
  · subst e
    obtain ⟨rfl, _, rfl⟩ : eo = some ⟨go, 0, none⟩ ∧ (pp ++ [(ObG.mk pO qO dO ⟨.slice ka ks.length kc, ks⟩ ⟨.slice va vs.length vc, vs⟩ ⟨.slice ua us.length uc, us⟩ ⟨.slice sa ss.length sc, ss⟩ ⟨.slice ra rs.length rc, rs⟩)]).length = pp.length + 1 ∧ ec = co := by simpa using hv
    have hb : bg = true := by
      cases bg with
      | true => rfl
      | false => have := HBG.out rfl; simp [SyG.dat] at this
    subst hb hM
    have LL := lineSub (SyG.mk sg ⟨.slice (some ⟨go, 0, none⟩) (pp ++ [(ObG.mk pO qO dO ⟨.slice ka ks.length kc, ks⟩ ⟨.slice va vs.length vc, vs⟩ ⟨.slice ua us.length uc, us⟩ ⟨.slice sa ss.length sc, ss⟩ ⟨.slice ra rs.length rc, rs⟩)]).length ec, pp ++ [(ObG.mk pO qO dO ⟨.slice ka ks.length kc, ks⟩ ⟨.slice va vs.length vc, vs⟩ ⟨.slice ua us.length uc, us⟩ ⟨.slice sa ss.length sc, ss⟩ ⟨.slice ra rs.length rc, rs⟩)]⟩ ⟨.slice xo ts.length xc, ts⟩).dat fs true HBG.out
    refine RdR.of B7.out H7.out (by repeat' (first | exact List.Sublist.refl _ | refine List.sublist_append_of_sublist_right ?_ | refine List.Sublist.cons _ ?_)) (fun hx => ?_) (fun hx => ?_)
    · rw [LL, if_pos]
      revert hx; simp [SyG.dat]
    · refine ⟨SyG.mk sg ⟨.slice (some ⟨go, 0, none⟩) (pp.length + 1) ec, pp ++ [(ObG.mk pO qO dO ⟨.slice ka ks.length kc, ks⟩ ⟨.slice va vs.length vc, vs⟩ ⟨(.slice (some ⟨gg, 0, none⟩) (us.length + 1) cap5), us ++ [rdN fs]⟩ ⟨.slice sa ss.length sc, ss⟩ ⟨.slice ra rs.length rc, rs⟩)]⟩ ⟨.slice xo ts.length xc, ts⟩, ?_, ?_⟩
      · rw [LL, if_neg]
        · simp only [SyG.dat, List.map_append, List.map_cons, List.map_nil, oneOb_snoc]
          first | rfl | simp [ObG.dat, StG.dat, TrG.dat, SmsG.dat, SmG.dat]
        · rw [Bool.not_eq_true]
          revert hx; simp [SyG.dat]
      · refine perm_count fun f g hf => ?_; simp only [hf.c, hf.a, hf.z, rdB, SyG.rows, ObsG.rows, ObsG.row, ObG.rows, InG.row, StsG.rows, TrsG.rows, StsG.row, TrsG.row, TmG.row, StG.rows, TrG.rows, SmG.rows, CdG.row, SmsG.rows, SmsG.row, itC_append, itC, List.map_append, List.map_cons, List.map_nil, List.flatMap_append, List.flatMap_cons, List.flatMap_nil, List.append_nil, List.nil_append, List.length_append, List.length_cons, List.length_nil, Nat.zero_add, List.cons_append, List.append_assoc, ObG.cells, StG.cells, TrG.cells, SmG.cells]; try omega
  · subst e
    subst e4
    refine RdR.of B7.out H7.out (by repeat' (first | exact List.Sublist.refl _ | refine List.sublist_append_of_sublist_right ?_ | refine List.Sublist.cons _ ?_)) (fun _ => line_nil (by decide) (by decide) (by decide) (by simp [SyG.dat])) (fun hx => absurd hx (by simp [badAll]))
end Go.Proofs.YtbcjlpjohknljaaGreatDoor
namespace Go.Proofs.YtbcjlpjohknljaaGreatDoor
open Go.RowKit Go.Sort
set_option linter.unusedVariables false
set_option linter.unusedSimpArgs false
attribute [local go_sem ↓] Go.wp_at_zero Go.wp_at_succ

set_option maxRecDepth 100000 in
set_option maxHeartbeats 6400000 in
/-- A line that gives a variable. -/
theorem readVar_any {w : World} {B F Q : Nat} {G : SyG} {bg : Bool} {X : List Rw} {fs : List (List UInt8)} (h : St w B F fs false (rdB Q G bg :: (G.rows ++ X))) (hz : SmD G.dat 1048575) (hbg : bg = false → G.dat.obs = []) : Calls Tryz.prog 46 #[.pointer (some ⟨Q, 0, none⟩), .pointer (some ⟨F, 0, none⟩)] w fun e w' => RdR B F Q G bg X kVar fs w e w' := by
  obtain ⟨eo, ec, xo, xc, hev, hxv⟩ := SyG.form h.flat.tail
  obtain ⟨sg, ⟨ov, os⟩, ⟨tv, ts⟩⟩ := G
  simp only at hev hxv
  subst hev hxv
  have OL : os.length ≤ 1048575 := by have := hz.o; simpa [SyG.dat] using this
  have TL : ts.length ≤ 1048575 := by have := hz.t; simpa [SyG.dat] using this
  have HZ := hid hz
  have HBG := hid hbg
  obtain ⟨⟨q0, q1, q2, q3⟩, y0, y1, y2, y3, yl⟩ := four_cb (box_blk h.head)
  simp only at q0 q1 q2 q3
  obtain ⟨i0, hi, hz0, hz1, hz2⟩ := info_parts Tryz.infoI
  have C := hid ((h.perm (L' := (ObsG.mk (.slice eo os.length ec) os).rows ++ (rdB Q (SyG.mk sg ⟨.slice eo os.length ec, os⟩ ⟨.slice xo ts.length xc, ts⟩) bg :: (TmG.mk (.slice xo ts.length xc) ts).row :: X)) (by refine perm_count fun f g hf => ?_; simp only [hf.c, hf.a, hf.z, rdB, SyG.rows, ObsG.rows, ObsG.row, ObG.rows, InG.row, StsG.rows, TrsG.rows, StsG.row, TrsG.row, TmG.row, StG.rows, TrG.rows, SmG.rows, CdG.row, SmsG.rows, SmsG.row, itC_append, itC, List.map_append, List.map_cons, List.map_nil, List.flatMap_append, List.flatMap_cons, List.flatMap_nil, List.append_nil, List.nil_append, List.length_append, List.length_cons, List.length_nil, Nat.zero_add, List.cons_append, List.append_assoc, ObG.cells, StG.cells, TrG.cells, SmG.cells]; try omega)).latO (by omega))
  clear h
  go_enter Tryz.func46, Tryz.ntmps46
  go_upto_region 1 with (go_at_call 73; with_reducible refine C.out.mono ?_; rintro e w1 ⟨go, co, pp, o, M, rfl, h1, b1, hpp, hor⟩; have H1 := hid h1; have B1 := hid b1; have OR := hid hor; clear h1 b1 hor)
  have SO : Hid (SmO o.dat 1048575) := hid (by
    rcases OR.out with ⟨e, _⟩ | ⟨_, _, e, _⟩
    · exact HZ.out.a _ (by rw [e]; simp [SyG.dat])
    · rw [e]; exact ⟨by simp [obZ, ObG.dat], by simp [obZ, ObG.dat], by simp [obZ, ObG.dat], by simp [obZ, ObG.dat], by simp [obZ, ObG.dat], by simp [obZ, ObG.dat], by simp [obZ, ObG.dat]⟩)
  obtain ⟨pO, qO, dO, ⟨kv, ks⟩, ⟨vv, vs⟩, ⟨uv, us⟩, ⟨sv, ss⟩, ⟨rv, rs⟩⟩ := o
  obtain ⟨ka, kc, hkv, _, _, _⟩ := ints_read (H1.out.own (r := (InG.mk kv ks).row) (by simp [ObG.rows]))
  obtain ⟨va, vc, hvv, _, _, _⟩ := ints_read (H1.out.own (r := (InG.mk vv vs).row) (by simp [ObG.rows]))
  obtain ⟨ua, uc, huv, _, _, _⟩ := ints_read (H1.out.own (r := (InG.mk uv us).row) (by simp [ObG.rows]))
  obtain ⟨sa, sc, hsv, _, _, _⟩ := row_read StG.cells 4 (fun _ => rfl) (H1.out.own (r := (StsG.mk sv ss).row) (by simp [ObG.rows, StsG.rows]))
  obtain ⟨ra, rc, hrv, _, _, _⟩ := row_read TrG.cells 5 (fun _ => rfl) (H1.out.own (r := (TrsG.mk rv rs).row) (by simp [ObG.rows, TrsG.rows]))
  simp only [InG.row, StsG.row, TrsG.row] at hkv hvv huv hsv hrv
  subst hkv hvv huv hsv hrv
  have KL : ks.length ≤ 1048575 := SO.out.k
  obtain ⟨kz, hkz⟩ : ∃ k, k = (rdI (fs.getD 0 [])).2 := ⟨_, rfl⟩
  have HKZ := hid hkz
  clear hkz
  have VL : vs.length ≤ 1048575 := SO.out.v
  have SW : Hid (St w1 B F fs (false || os.isEmpty) ((InG.mk (.slice ka ks.length kc) ks).row :: (ObsG.mk (.slice (some ⟨go, 0, none⟩) (pp.length + 1) co) (pp ++ [(ObG.mk pO qO dO ⟨.slice ka ks.length kc, ks⟩ ⟨.slice va vs.length vc, vs⟩ ⟨.slice ua us.length uc, us⟩ ⟨.slice sa ss.length sc, ss⟩ ⟨.slice ra rs.length rc, rs⟩)])).row :: ((InG.mk (.slice va vs.length vc) vs).row :: (InG.mk (.slice ua us.length uc) us).row :: ((StsG.mk (.slice sa ss.length sc) ss).rows ++ ((TrsG.mk (.slice ra rs.length rc) rs).rows ++ M))))) := hid (H1.out.perm (by refine perm_count fun f g hf => ?_; simp only [hf.c, hf.a, hf.z, rdB, SyG.rows, ObsG.rows, ObsG.row, ObG.rows, InG.row, StsG.rows, TrsG.rows, StsG.row, TrsG.row, TmG.row, StG.rows, TrG.rows, SmG.rows, CdG.row, SmsG.rows, SmsG.row, itC_append, itC, List.map_append, List.map_cons, List.map_nil, List.flatMap_append, List.flatMap_cons, List.flatMap_nil, List.append_nil, List.nil_append, List.length_append, List.length_cons, List.length_nil, Nat.zero_add, List.cons_append, List.append_assoc, ObG.cells, StG.cells, TrG.cells, SmG.cells]; try omega))
  clear H1 C q0 q1 q2 q3 y0 y1 y2 y3 yl
  have CS : Hid (∀ (X : World) (fs0 : List (List UInt8)) (bd0 : Bool) (T : List Rw), St X B F fs0 bd0 ((ObsG.mk (.slice (some ⟨go, 0, none⟩) (pp.length + 1) co) (pp ++ [(ObG.mk pO qO dO ⟨.slice ka ks.length kc, ks⟩ ⟨.slice va vs.length vc, vs⟩ ⟨.slice ua us.length uc, us⟩ ⟨.slice sa ss.length sc, ss⟩ ⟨.slice ra rs.length rc, rs⟩)])).row :: T) → X.cell? ⟨go, pp.length * 8 + 3, none⟩ = some (.slice ka ks.length kc)) := hid (fun X _ _ _ hX => ob_cell hX.head 3 (by omega))
  have KD : Hid (w1.drew.cell? ⟨go, pp.length * 8 + 3, none⟩ = some (.slice ka ks.length kc)) := hid (CS.out _ _ _ _ SW.out.tail.drew)
  have CC := hid SW.out.drew.kind
  rw [← HKZ.out] at CC
  refine wp_region_noPanic ?_
  refine wp_region_till (st := 13) (S := fun u => u.cell? ⟨go, pp.length * 8 + 3, none⟩ = some (.slice ka ks.length kc)) (by kernel_rfl) ?_
  refine wpTill_take (i := 0) (d := some 12) (v := ?_) rfl rfl (by kernel_rfl) (by kernel_rfl) (by kernel_rfl) (by kernel_rfl) (by kernel_rfl) (fun _ _ _ h => h) (Or.inl ⟨by rfl, ?_⟩) KD.out ?_
  case refine_2 => (intro u hu; obtain s0 := hu; go_simp; first | done | with_reducible rfl)
  simp only [Act.put, List.setIfInBounds_toArray, List.set_cons_zero, List.set_cons_succ]
  refine wpTill_take (i := 1) (d := some 13) (v := ?_) rfl rfl (by kernel_rfl) (by kernel_rfl) (by kernel_rfl) (by kernel_rfl) (by kernel_rfl) (fun _ _ _ h => h) (Or.inl ⟨by rfl, ?_⟩) KD.out ?_
  case refine_2 => (intro u hu; obtain s0 := hu; go_simp; first | done | with_reducible rfl)
  simp only [Act.put, List.setIfInBounds_toArray, List.set_cons_zero, List.set_cons_succ]
  refine wpTill_take (i := 2) (d := some 14) (v := ?_) rfl rfl (by kernel_rfl) (by kernel_rfl) (by kernel_rfl) (by kernel_rfl) (by kernel_rfl) (fun _ _ _ h => h) (Or.inl ⟨by rfl, ?_⟩) KD.out ?_
  case refine_2 => (intro u hu; obtain s0 := hu; go_simp; first | done | with_reducible rfl)
  simp only [Act.put, List.setIfInBounds_toArray, List.set_cons_zero, List.set_cons_succ]
  refine wpTill_take (i := 3) (d := some 15) (v := ?_) rfl rfl (by kernel_rfl) (by kernel_rfl) (by kernel_rfl) (by kernel_rfl) (by kernel_rfl) (fun _ _ _ h => h) (Or.inl ⟨by rfl, ?_⟩) KD.out ?_
  case refine_2 => (intro u hu; obtain s0 := hu; go_simp; first | done | with_reducible rfl)
  simp only [Act.put, List.setIfInBounds_toArray, List.set_cons_zero, List.set_cons_succ]
  refine wpTill_take (i := 4) (d := some 16) (v := ?_) rfl rfl (by kernel_rfl) (by kernel_rfl) (by kernel_rfl) (by kernel_rfl) (by kernel_rfl) (fun _ _ _ h => h) (Or.inl ⟨by rfl, ?_⟩) KD.out ?_
  case refine_2 => (intro u hu; obtain s0 := hu; go_simp; first | done | with_reducible rfl)
  simp only [Act.put, List.setIfInBounds_toArray, List.set_cons_zero, List.set_cons_succ]
  refine wpTill_take (i := 5) (d := some 17) (v := ?_) rfl rfl (by kernel_rfl) (by kernel_rfl) (by kernel_rfl) (by kernel_rfl) (by kernel_rfl) (fun _ _ _ h => h) (Or.inl ⟨by rfl, ?_⟩) KD.out ?_
  case refine_2 => (intro u hu; obtain s0 := hu; go_simp; first | done | with_reducible rfl)
  simp only [Act.put, List.setIfInBounds_toArray, List.set_cons_zero, List.set_cons_succ]
  refine wpTill_take (i := 6) (d := some 18) (v := ?_) rfl rfl (by kernel_rfl) (by kernel_rfl) (by kernel_rfl) (by kernel_rfl) (by kernel_rfl) (fun _ _ _ h => h) (Or.inl ⟨by rfl, ?_⟩) KD.out ?_
  case refine_2 => (intro u hu; obtain s0 := hu; go_simp; first | done | with_reducible rfl)
  simp only [Act.put, List.setIfInBounds_toArray, List.set_cons_zero, List.set_cons_succ]
  refine wpTill_step (i := 7) (by kernel_rfl) rfl (fun K hK => ?_)
  go_simp
  go_wp2_with (go_at_call 74; with_reducible refine CC.out.mono ?_; rintro e w6 ⟨rfl, h6, b6⟩; have H6 := hid h6; have B6 := hid b6; clear h6 b6)
  have K6 := hid (CS.out w6 _ _ _ H6.out.tail)
  refine hK _ _ K6.out ?_
  clear hK K
  obtain ⟨U, hU⟩ : ∃ U, U = (w6.alloc (.cells #[.int .i64 kz] 3)) := ⟨_, rfl⟩
  have BU : Hid (Below w6.heap.size w6 U) := hid (by rw [hU]; exact (below1 _ _))
  have HU := hid (H6.out.new BU.out)
  have KU := hid (CS.out U _ _ _ HU.out.tail)
  have NWU : Hid (∀ j u, [.int .i64 kz][j]? = some u → U.cell? ((⟨w6.heap.size, 0, none⟩ : Addr).add j) = some u) := hid (World.news_of_block (cs := #[.int .i64 kz]) (by rw [hU]; exact heap_alloc_new w6 _))
  refine wpTill_step (i := 8) (by kernel_rfl) rfl (fun K hK => ?_)
  go_simp
  rw [← hU]
  refine hK _ _ KU.out ?_
  clear hU hK K
  refine wpTill_step (i := 9) (by kernel_rfl) rfl (fun K hK => ?_)
  refine step_append_lies _ (by rfl) _ _ _ (by rfl) B 3 i0 _ 1 8 Tryz.underlying46 hi hz0 hz1 hz2 rfl (by omega) (.slice ka ks.length kc) ks.length (ks.map (Value.int .i64)) (by simp [Act.eval]) HU.out.head ⟨w6.heap.size, 0, none⟩ 1 1 [.int .i64 kz] (by simp [Act.eval]) (by simp) NWU.out (one_int _) (by omega) (by unfold maxLen; omega) (by omega) HU.out.hi U.heap.size rfl ?_
  intro g1 cap1 w5 hown hgrow hat hlt5
  have H5 := hid (HU.out.app hgrow hown hat)
  have B5 := hid (HU.out.bapp hgrow)
  have K5 := hid (CS.out w5 _ _ _ H5.out.tail)
  clear hown hgrow hat
  refine hK _ _ K5.out ?_
  clear hK K
  refine wpTill_step (i := 10) (by kernel_rfl) rfl (fun K hK => ?_)
  go_simp
  refine hK _ _ K5.out ?_
  clear hK K
  refine wpTill_step (i := 11) (by kernel_rfl) rfl (fun K hK => ?_)
  go_simp
  refine hK _ _ K5.out ?_
  clear hK K
  refine wpTill_step (i := 12) (by kernel_rfl) rfl (fun K hK => ?_)
  go_simp
  refine hK _ _ K5.out ?_
  clear hK K
  obtain c5 := K5.out
  obtain ⟨fz5, fl5⟩ := ob_froz H5.out.tail.head (pp.length * 8 + 3)
  refine wpTill_last (by kernel_rfl) rfl (by kernel_rfl) (fun K hK => ?_)
  go_simp
  refine hK _ _ ?_
  clear hK K
  refine wpTill_done (by kernel_rfl) ?_ _
  refine NoPanic.normal ?_
  have H7 : Hid (St (w5.setCell ⟨go, pp.length * 8 + 3, none⟩ (.slice (some ⟨g1, 0, none⟩) (ks.length + 1) cap1)) B F fs.tail ((false || os.isEmpty) || !okK fs) ((ObsG.mk (.slice (some ⟨go, 0, none⟩) (pp.length + 1) co) (pp ++ [(ObG.mk pO qO dO ⟨(.slice (some ⟨g1, 0, none⟩) (ks.length + 1) cap1), ks ++ [kz]⟩ ⟨.slice va vs.length vc, vs⟩ ⟨.slice ua us.length uc, us⟩ ⟨.slice sa ss.length sc, ss⟩ ⟨.slice ra rs.length rc, rs⟩)])).row :: (⟨3, 1, (.slice (some ⟨g1, 0, none⟩) (ks.length + 1) cap1), ks.length + 1, ks.map (Value.int .i64) ++ [.int .i64 kz]⟩ : Rw) :: ((InG.mk (.slice va vs.length vc) vs).row :: (InG.mk (.slice ua us.length uc) us).row :: ((StsG.mk (.slice sa ss.length sc) ss).rows ++ ((TrsG.mk (.slice ra rs.length rc) rs).rows ++ M))))) := hid ((H5.out.perm (.swap _ _ _)).obSet (o' := (ObG.mk pO qO dO ⟨(.slice (some ⟨g1, 0, none⟩) (ks.length + 1) cap1), ks ++ [kz]⟩ ⟨.slice va vs.length vc, vs⟩ ⟨.slice ua us.length uc, us⟩ ⟨.slice sa ss.length sc, ss⟩ ⟨.slice ra rs.length rc, rs⟩)) 3 (.slice (some ⟨g1, 0, none⟩) (ks.length + 1) cap1) (by omega) rfl)
  have B7 := hid ((((B1.out.trans (SW.out.bnew (Below.refl _ _).drew)).trans B6.out).trans (H6.out.bnew BU.out)).trans (B5.out.trans ((H5.out.perm (.swap _ _ _)).bobSet (pp.length * 8 + 3) (.slice (some ⟨g1, 0, none⟩) (ks.length + 1) cap1))))
  clear H5 H6 HU K5 K6 KU KD CS CC NWU B5 B6 BU c5 fz5 fl5
  clear B1
  obtain ⟨W2, hW2⟩ : ∃ W, W = w5.setCell ⟨go, pp.length * 8 + 3, none⟩ (.slice (some ⟨g1, 0, none⟩) (ks.length + 1) cap1) := ⟨_, rfl⟩
  rw [← hW2] at H7 B7 ⊢
  clear hW2
  have SW2 : Hid (St W2 B F fs.tail ((false || os.isEmpty) || !okK fs) ((InG.mk (.slice va vs.length vc) vs).row :: (ObsG.mk (.slice (some ⟨go, 0, none⟩) (pp.length + 1) co) (pp ++ [(ObG.mk pO qO dO ⟨(.slice (some ⟨g1, 0, none⟩) (ks.length + 1) cap1), ks ++ [kz]⟩ ⟨.slice va vs.length vc, vs⟩ ⟨.slice ua us.length uc, us⟩ ⟨.slice sa ss.length sc, ss⟩ ⟨.slice ra rs.length rc, rs⟩)])).row :: ((InG.mk (.slice (some ⟨g1, 0, none⟩) (ks.length + 1) cap1) (ks ++ [kz])).row :: (InG.mk (.slice ua us.length uc) us).row :: ((StsG.mk (.slice sa ss.length sc) ss).rows ++ ((TrsG.mk (.slice ra rs.length rc) rs).rows ++ M))))) := hid (H7.out.perm (by refine perm_count fun f g hf => ?_; simp only [hf.c, hf.a, hf.z, rdB, SyG.rows, ObsG.rows, ObsG.row, ObG.rows, InG.row, StsG.rows, TrsG.rows, StsG.row, TrsG.row, TmG.row, StG.rows, TrG.rows, SmG.rows, CdG.row, SmsG.rows, SmsG.row, itC_append, itC, List.map_append, List.map_cons, List.map_nil, List.flatMap_append, List.flatMap_cons, List.flatMap_nil, List.append_nil, List.nil_append, List.length_append, List.length_cons, List.length_nil, Nat.zero_add, List.cons_append, List.append_assoc, ObG.cells, StG.cells, TrG.cells, SmG.cells]; try omega))
  clear SW H7
  have SW := SW2
  clear SW2
  go_upto_region 2 with fail
  have CS : Hid (∀ (X : World) (fs0 : List (List UInt8)) (bd0 : Bool) (T : List Rw), St X B F fs0 bd0 ((ObsG.mk (.slice (some ⟨go, 0, none⟩) (pp.length + 1) co) (pp ++ [(ObG.mk pO qO dO ⟨(.slice (some ⟨g1, 0, none⟩) (ks.length + 1) cap1), ks ++ [kz]⟩ ⟨.slice va vs.length vc, vs⟩ ⟨.slice ua us.length uc, us⟩ ⟨.slice sa ss.length sc, ss⟩ ⟨.slice ra rs.length rc, rs⟩)])).row :: T) → X.cell? ⟨go, pp.length * 8 + 4, none⟩ = some (.slice va vs.length vc)) := hid (fun X _ _ _ hX => ob_cell hX.head 4 (by omega))
  have KD : Hid (W2.drew.cell? ⟨go, pp.length * 8 + 4, none⟩ = some (.slice va vs.length vc)) := hid (CS.out _ _ _ _ SW.out.tail.drew)
  have CC := hid SW.out.drew.number
  refine wp_region_noPanic ?_
  refine wp_region_till (st := 13) (S := fun u => u.cell? ⟨go, pp.length * 8 + 4, none⟩ = some (.slice va vs.length vc)) (by kernel_rfl) ?_
  refine wpTill_take (i := 0) (d := some 25) (v := ?_) rfl rfl (by kernel_rfl) (by kernel_rfl) (by kernel_rfl) (by kernel_rfl) (by kernel_rfl) (fun _ _ _ h => h) (Or.inl ⟨by rfl, ?_⟩) KD.out ?_
  case refine_2 => (intro u hu; obtain s0 := hu; go_simp; first | done | with_reducible rfl)
  simp only [Act.put, List.setIfInBounds_toArray, List.set_cons_zero, List.set_cons_succ]
  refine wpTill_take (i := 1) (d := some 26) (v := ?_) rfl rfl (by kernel_rfl) (by kernel_rfl) (by kernel_rfl) (by kernel_rfl) (by kernel_rfl) (fun _ _ _ h => h) (Or.inl ⟨by rfl, ?_⟩) KD.out ?_
  case refine_2 => (intro u hu; obtain s0 := hu; go_simp; first | done | with_reducible rfl)
  simp only [Act.put, List.setIfInBounds_toArray, List.set_cons_zero, List.set_cons_succ]
  refine wpTill_take (i := 2) (d := some 27) (v := ?_) rfl rfl (by kernel_rfl) (by kernel_rfl) (by kernel_rfl) (by kernel_rfl) (by kernel_rfl) (fun _ _ _ h => h) (Or.inl ⟨by rfl, ?_⟩) KD.out ?_
  case refine_2 => (intro u hu; obtain s0 := hu; go_simp; first | done | with_reducible rfl)
  simp only [Act.put, List.setIfInBounds_toArray, List.set_cons_zero, List.set_cons_succ]
  refine wpTill_take (i := 3) (d := some 28) (v := ?_) rfl rfl (by kernel_rfl) (by kernel_rfl) (by kernel_rfl) (by kernel_rfl) (by kernel_rfl) (fun _ _ _ h => h) (Or.inl ⟨by rfl, ?_⟩) KD.out ?_
  case refine_2 => (intro u hu; obtain s0 := hu; go_simp; first | done | with_reducible rfl)
  simp only [Act.put, List.setIfInBounds_toArray, List.set_cons_zero, List.set_cons_succ]
  refine wpTill_take (i := 4) (d := some 29) (v := ?_) rfl rfl (by kernel_rfl) (by kernel_rfl) (by kernel_rfl) (by kernel_rfl) (by kernel_rfl) (fun _ _ _ h => h) (Or.inl ⟨by rfl, ?_⟩) KD.out ?_
  case refine_2 => (intro u hu; obtain s0 := hu; go_simp; first | done | with_reducible rfl)
  simp only [Act.put, List.setIfInBounds_toArray, List.set_cons_zero, List.set_cons_succ]
  refine wpTill_take (i := 5) (d := some 30) (v := ?_) rfl rfl (by kernel_rfl) (by kernel_rfl) (by kernel_rfl) (by kernel_rfl) (by kernel_rfl) (fun _ _ _ h => h) (Or.inl ⟨by rfl, ?_⟩) KD.out ?_
  case refine_2 => (intro u hu; obtain s0 := hu; go_simp; first | done | with_reducible rfl)
  simp only [Act.put, List.setIfInBounds_toArray, List.set_cons_zero, List.set_cons_succ]
  refine wpTill_take (i := 6) (d := some 31) (v := ?_) rfl rfl (by kernel_rfl) (by kernel_rfl) (by kernel_rfl) (by kernel_rfl) (by kernel_rfl) (fun _ _ _ h => h) (Or.inl ⟨by rfl, ?_⟩) KD.out ?_
  case refine_2 => (intro u hu; obtain s0 := hu; go_simp; first | done | with_reducible rfl)
  simp only [Act.put, List.setIfInBounds_toArray, List.set_cons_zero, List.set_cons_succ]
  refine wpTill_step (i := 7) (by kernel_rfl) rfl (fun K hK => ?_)
  go_simp
  go_wp2_with (go_at_call 71; with_reducible refine CC.out.mono ?_; rintro e w6 ⟨rfl, h6, b6⟩; have H6 := hid h6; have B6 := hid b6; clear h6 b6)
  have K6 := hid (CS.out w6 _ _ _ H6.out.tail)
  refine hK _ _ K6.out ?_
  clear hK K
  obtain ⟨U, hU⟩ : ∃ U, U = (w6.alloc (.cells #[.int .i64 (rdN fs.tail)] 3)) := ⟨_, rfl⟩
  have BU : Hid (Below w6.heap.size w6 U) := hid (by rw [hU]; exact (below1 _ _))
  have HU := hid (H6.out.new BU.out)
  have KU := hid (CS.out U _ _ _ HU.out.tail)
  have NWU : Hid (∀ j u, [.int .i64 (rdN fs.tail)][j]? = some u → U.cell? ((⟨w6.heap.size, 0, none⟩ : Addr).add j) = some u) := hid (World.news_of_block (cs := #[.int .i64 (rdN fs.tail)]) (by rw [hU]; exact heap_alloc_new w6 _))
  refine wpTill_step (i := 8) (by kernel_rfl) rfl (fun K hK => ?_)
  go_simp
  rw [← hU]
  refine hK _ _ KU.out ?_
  clear hU hK K
  refine wpTill_step (i := 9) (by kernel_rfl) rfl (fun K hK => ?_)
  refine step_append_lies _ (by rfl) _ _ _ (by rfl) B 3 i0 _ 1 8 Tryz.underlying46 hi hz0 hz1 hz2 rfl (by omega) (.slice va vs.length vc) vs.length (vs.map (Value.int .i64)) (by simp [Act.eval]) HU.out.head ⟨w6.heap.size, 0, none⟩ 1 1 [.int .i64 (rdN fs.tail)] (by simp [Act.eval]) (by simp) NWU.out (one_int _) (by omega) (by unfold maxLen; omega) (by omega) HU.out.hi U.heap.size rfl ?_
  intro gg cap5 w5 hown hgrow hat hlt5
  have H5 := hid (HU.out.app hgrow hown hat)
  have B5 := hid (HU.out.bapp hgrow)
  have K5 := hid (CS.out w5 _ _ _ H5.out.tail)
  clear hown hgrow hat
  refine hK _ _ K5.out ?_
  clear hK K
  refine wpTill_step (i := 10) (by kernel_rfl) rfl (fun K hK => ?_)
  go_simp
  refine hK _ _ K5.out ?_
  clear hK K
  refine wpTill_step (i := 11) (by kernel_rfl) rfl (fun K hK => ?_)
  go_simp
  refine hK _ _ K5.out ?_
  clear hK K
  refine wpTill_step (i := 12) (by kernel_rfl) rfl (fun K hK => ?_)
  go_simp
  refine hK _ _ K5.out ?_
  clear hK K
  obtain c5 := K5.out
  obtain ⟨fz5, fl5⟩ := ob_froz H5.out.tail.head (pp.length * 8 + 4)
  refine wpTill_last (by kernel_rfl) rfl (by kernel_rfl) (fun K hK => ?_)
  go_simp
  refine hK _ _ ?_
  clear hK K
  refine wpTill_done (by kernel_rfl) ?_ _
  refine NoPanic.normal ?_
  have H7 : Hid (St (w5.setCell ⟨go, pp.length * 8 + 4, none⟩ (.slice (some ⟨gg, 0, none⟩) (vs.length + 1) cap5)) B F fs.tail.tail (((false || os.isEmpty) || !okK fs) || !okN fs.tail) ((ObsG.mk (.slice (some ⟨go, 0, none⟩) (pp.length + 1) co) (pp ++ [(ObG.mk pO qO dO ⟨(.slice (some ⟨g1, 0, none⟩) (ks.length + 1) cap1), ks ++ [kz]⟩ ⟨(.slice (some ⟨gg, 0, none⟩) (vs.length + 1) cap5), vs ++ [rdN fs.tail]⟩ ⟨.slice ua us.length uc, us⟩ ⟨.slice sa ss.length sc, ss⟩ ⟨.slice ra rs.length rc, rs⟩)])).row :: (⟨3, 1, (.slice (some ⟨gg, 0, none⟩) (vs.length + 1) cap5), vs.length + 1, vs.map (Value.int .i64) ++ [.int .i64 (rdN fs.tail)]⟩ : Rw) :: ((InG.mk (.slice (some ⟨g1, 0, none⟩) (ks.length + 1) cap1) (ks ++ [kz])).row :: (InG.mk (.slice ua us.length uc) us).row :: ((StsG.mk (.slice sa ss.length sc) ss).rows ++ ((TrsG.mk (.slice ra rs.length rc) rs).rows ++ M))))) := hid ((H5.out.perm (.swap _ _ _)).obSet (o' := (ObG.mk pO qO dO ⟨(.slice (some ⟨g1, 0, none⟩) (ks.length + 1) cap1), ks ++ [kz]⟩ ⟨(.slice (some ⟨gg, 0, none⟩) (vs.length + 1) cap5), vs ++ [rdN fs.tail]⟩ ⟨.slice ua us.length uc, us⟩ ⟨.slice sa ss.length sc, ss⟩ ⟨.slice ra rs.length rc, rs⟩)) 4 (.slice (some ⟨gg, 0, none⟩) (vs.length + 1) cap5) (by omega) rfl)
  have B8 := hid ((((B7.out.trans (SW.out.bnew (Below.refl _ _).drew)).trans B6.out).trans (H6.out.bnew BU.out)).trans (B5.out.trans ((H5.out.perm (.swap _ _ _)).bobSet (pp.length * 8 + 4) (.slice (some ⟨gg, 0, none⟩) (vs.length + 1) cap5))))
  clear H5 H6 HU K5 K6 KU KD CS CC NWU B5 B6 BU c5 fz5 fl5
  clear B7 SW
  go_wp2_with fail
  go_end0
  rcases OR.out with ⟨e, hv, hM⟩ | ⟨e, e2, e3, e4⟩
  · subst e
    obtain ⟨rfl, _, rfl⟩ : eo = some ⟨go, 0, none⟩ ∧ (pp ++ [(ObG.mk pO qO dO ⟨.slice ka ks.length kc, ks⟩ ⟨.slice va vs.length vc, vs⟩ ⟨.slice ua us.length uc, us⟩ ⟨.slice sa ss.length sc, ss⟩ ⟨.slice ra rs.length rc, rs⟩)]).length = pp.length + 1 ∧ ec = co := by simpa using hv
    have hb : bg = true := by
      cases bg with
      | true => rfl
      | false => have := HBG.out rfl; simp [SyG.dat] at this
    subst hb hM
    have LL := lineVar (SyG.mk sg ⟨.slice (some ⟨go, 0, none⟩) (pp ++ [(ObG.mk pO qO dO ⟨.slice ka ks.length kc, ks⟩ ⟨.slice va vs.length vc, vs⟩ ⟨.slice ua us.length uc, us⟩ ⟨.slice sa ss.length sc, ss⟩ ⟨.slice ra rs.length rc, rs⟩)]).length ec, pp ++ [(ObG.mk pO qO dO ⟨.slice ka ks.length kc, ks⟩ ⟨.slice va vs.length vc, vs⟩ ⟨.slice ua us.length uc, us⟩ ⟨.slice sa ss.length sc, ss⟩ ⟨.slice ra rs.length rc, rs⟩)]⟩ ⟨.slice xo ts.length xc, ts⟩).dat fs true HBG.out
    refine RdR.of B8.out H7.out (by repeat' (first | exact List.Sublist.refl _ | refine List.sublist_append_of_sublist_right ?_ | refine List.Sublist.cons _ ?_)) (fun hx => ?_) (fun hx => ?_)
    · rw [LL, if_pos]
      revert hx; simp [SyG.dat]
    · refine ⟨SyG.mk sg ⟨.slice (some ⟨go, 0, none⟩) (pp.length + 1) ec, pp ++ [(ObG.mk pO qO dO ⟨(.slice (some ⟨g1, 0, none⟩) (ks.length + 1) cap1), ks ++ [kz]⟩ ⟨(.slice (some ⟨gg, 0, none⟩) (vs.length + 1) cap5), vs ++ [rdN fs.tail]⟩ ⟨.slice ua us.length uc, us⟩ ⟨.slice sa ss.length sc, ss⟩ ⟨.slice ra rs.length rc, rs⟩)]⟩ ⟨.slice xo ts.length xc, ts⟩, ?_, ?_⟩
      · rw [LL, if_neg]
        · simp only [SyG.dat, List.map_append, List.map_cons, List.map_nil, oneOb_snoc]
          rw [← HKZ.out]; first | rfl | simp [ObG.dat, StG.dat, TrG.dat, SmsG.dat, SmG.dat]
        · rw [Bool.not_eq_true]
          revert hx; simp [SyG.dat]
      · refine perm_count fun f g hf => ?_; simp only [hf.c, hf.a, hf.z, rdB, SyG.rows, ObsG.rows, ObsG.row, ObG.rows, InG.row, StsG.rows, TrsG.rows, StsG.row, TrsG.row, TmG.row, StG.rows, TrG.rows, SmG.rows, CdG.row, SmsG.rows, SmsG.row, itC_append, itC, List.map_append, List.map_cons, List.map_nil, List.flatMap_append, List.flatMap_cons, List.flatMap_nil, List.append_nil, List.nil_append, List.length_append, List.length_cons, List.length_nil, Nat.zero_add, List.cons_append, List.append_assoc, ObG.cells, StG.cells, TrG.cells, SmG.cells]; try omega
  · subst e
    subst e4
    refine RdR.of B8.out H7.out (by repeat' (first | exact List.Sublist.refl _ | refine List.sublist_append_of_sublist_right ?_ | refine List.Sublist.cons _ ?_)) (fun _ => line_nil (by decide) (by decide) (by decide) (by simp [SyG.dat])) (fun hx => absurd hx (by simp [badAll]))
end Go.Proofs.YtbcjlpjohknljaaGreatDoor

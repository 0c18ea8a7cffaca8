import Derived.Test.YtcdcjpejlhcdnaaDoorSr10
namespace Go.Proofs.YtcdcjpejlhcdnaaDoor
open Go.RowKit Go.Sort
set_option linter.unusedVariables false
attribute [local go_sem ↓] Go.wp_at_zero Go.wp_at_succ

set_option maxRecDepth 100000 in
set_option maxHeartbeats 1600000 in
theorem add_any (F R B : Nat) (fs : List (List UInt8)) (bad : Bool) (v : Value) (xs : List ScI) (x : ScI) (w : World) (hv : Vars w) (hF : 12 < F) (hB : B ≤ w.heap.size) (hl : xs.length ≤ 4000) (hf : FAt w F fs bad) (hr : RAt w B R v xs) :
    Calls Tryd.prog 38 #[.pointer (some ⟨R, 0, none⟩), .pointer (some ⟨F, 0, none⟩), .agg #[.int .i64 x.k, .int .i64 x.o, .int .i64 x.s, .int .i64 x.v]] w fun e w' => e = .returned (.tuple #[]) ∧ FAt w' F fs (bad || !decide (xs.length < 4000)) ∧ (∃ v', RAt w' B R v' (xs ++ [x])) ∧ Tn (RdS F R v) w w' := by
  obtain ⟨i0, hi, hz0, hz1, hz2⟩ := info_parts Tryd.infoSc
  obtain ⟨te, pe, hp⟩ := hv.place
  obtain ⟨va, vn, vc, rfl⟩ := row_form hr.row
  have hvn := row_len hr.row
  subst hvn
  have HR := hid hr
  have HF := hid hf
  obtain ⟨c0, f0⟩ := one_cc hr.blk
  have hRl := lt_of_block hr.blk
  have hgl := Lib.lt_of_cell hp
  obtain ⟨b, hb⟩ : ∃ b : Bool, b = decide (xs.length < 4000) := ⟨_, rfl⟩
  have hnb : decide ((xs.length : Int) < 4000) = b := by rw [hb]; congr 1; simp; omega
  rw [← hb]
  obtain ⟨W0, hW0⟩ : ∃ W, W = w.alloc (.cells #[.int .i64 x.k, .int .i64 x.o, .int .i64 x.s, .int .i64 x.v] 31) := ⟨_, rfl⟩
  have BW0 := hid (show Below w.heap.size w W0 by rw [hW0]; exact below1 _ _)
  have QW0 := hid (show W0.heap[w.heap.size]? = some (.cells #[.int .i64 x.k, .int .i64 x.o, .int .i64 x.s, .int .i64 x.v] 31 (0, 0)) by rw [hW0]; exact heap_alloc_new _ _)
  have c0' : W0.cell? ⟨R, 0, none⟩ = some (.slice va xs.length vc) := (one_cc (block_below hr.blk BW0.out)).1
  have hp' : W0.cell? ⟨6, 0, none⟩ = some (.iface te pe) := (BW0.out.cell (p := ⟨6, 0, none⟩) hgl).trans hp
  have hRl' := lt_of_block (block_below hr.blk BW0.out)
  have hgl' := Lib.lt_of_cell hp'
  have NE := hid (hr.ne hf)
  have HW0 := hid hW0
  have HB := hid hb
  clear hb hv hp hf hr hW0 c0 f0
  go_enter Tryd.func38, Tryd.ntmps38
  go_wp2_with fail
  rw [← HW0.out]
  clear HW0
  go_region_with (go_at_call 40; with_reducible refine (need_any F fs bad b te pe _ (HF.out.below BW0.out).drew).mono ?_; rintro e w3 ⟨rfl, h3, t3⟩; have H3 := hid h3; have T3 := hid ((Tn.of_below (S := (· = F)) ((Below.refl W0.heap.size W0).drew)).trans t3); clear h3 t3)
  all_goals
    have R3 := hid ((HR.out.below BW0.out).tn T3.out (fun e => NE.out.1 e.symm) (fun b hb => by rw [hb]; exact NE.out.2.1))
    have Q3 := hid (T3.out.at QW0.out (fun e => by have := HF.out.lt; omega))
    have T03 := hid ((Tn.of_below (S := (· = F)) BW0.out).trans T3.out)
    obtain ⟨W, hW⟩ : ∃ W, W = w3 := ⟨_, rfl⟩
    obtain ⟨U, hU⟩ : ∃ U, U = w3.alloc (.cells #[.int .i64 x.k, .int .i64 x.o, .int .i64 x.s, .int .i64 x.v] 31) := ⟨_, rfl⟩
    have BU : Hid (Below w3.heap.size w3 U) := hid (by rw [hU]; exact below1 _ _)
    have qU : U.heap[w3.heap.size]? = some (.cells #[.int .i64 x.k, .int .i64 x.o, .int .i64 x.s, .int .i64 x.v] 31 (0, 0)) := by rw [hU]; exact heap_alloc_new _ _
    have NW := hid (World.news_of_block qU)
    have HEU := hid (ownsRow_below R3.out.row BU.out)
    have zB := hid (show B ≤ w3.heap.size by have := T03.out.size; omega)
    have SU : Hid (B ≤ U.heap.size) := hid (Nat.le_trans zB.out BU.out.size)
    have F63 : Hid (xs.length + 1 ≤ maxLen ∧ (xs.length + 1) * 32 ≤ 140737488355328) := hid (by unfold maxLen; omega)
    obtain ⟨r0, r1⟩ := one_cc R3.out.blk
    obtain ⟨q0, q1, q2, q3⟩ := quad_cells Q3.out
    have rl := lt_of_block R3.out.blk
    have ql := lt_of_block Q3.out
    subst hU
    clear hW qU
    go_wp2_with fail
    go_region_law
      (first
        | (refine step_append_lies _ (by rfl) _ _ _ (by rfl) B 31 i0 _ 4 32 Tryd.underlying22 hi hz0 hz1 hz2 rfl (by omega) (.slice va xs.length vc) xs.length (scCells xs) (by simp [Act.eval]) HEU.out ⟨w3.heap.size, 0, none⟩ 1 1 [.int .i64 x.k, .int .i64 x.o, .int .i64 x.s, .int .i64 x.v] (by simp [Act.eval]) (by simp) NW.out (one4 _ _ _ _) (by omega) F63.out.1 F63.out.2 SU.out _ rfl ?_; intro gg cap' w2 hown1 hgrow hat hlt; have NA := add_after zB.out (by first | exact BU.out | exact BU.out.drew) R3.out H3.out hgrow hown1; have AA := hid NA; obtain ⟨r2, r3⟩ := one_cc NA.1; have rl2 := lt_of_block NA.1; clear NA hown1 hgrow hat))
    all_goals
      go_end0
      obtain ⟨_, a1, a2, a3⟩ := AA.out
      exact ⟨rfl, a2, ⟨_, a1⟩, (T03.out.mono (fun i _ h => .inl h)).trans a3⟩
end Go.Proofs.YtcdcjpejlhcdnaaDoor

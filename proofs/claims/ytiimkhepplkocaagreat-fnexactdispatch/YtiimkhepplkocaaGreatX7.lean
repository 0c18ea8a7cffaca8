import Derived.Test.YtiimkhepplkocaaGreatX6
namespace Go.Proofs.YtiimkhepplkocaaGreat
open Go.RowKit Go.Sort

set_option linter.unusedVariables false

section
variable {w : World} {ao : Option Addr} {n c : Nat} {its : List (Int × Int)} {vo : Option Addr} {vn vc : Nat} {vs : List Int} {arg : Int}

set_option maxHeartbeats 1600000 in
theorem val_conv (hs : ItemsOf w ao n its) (hn : n ≤ 1048576) {e : Nat} (he : e < n) {k : Int} {t : Tree} (h1 : 1 ≤ k) (h7 : k ≤ 7) (hit : its.getD e (0, 0) = (19, k)) (ht : ValAt w ao n c vo vn vc vs arg e t) : ValAt w ao n c vo vn vc vs arg (e + 1) (.conv k t) := by
  refine ⟨conv_I64 ht.1, fun w' hb => ?_⟩
  show Calls _ _ _ _ fun r w'' => r = .returned (.int .i64 (conv k (evalT vs arg t))) ∧ _
  obtain ⟨b, off, rfl, hbl, hc⟩ := (hs.below hb).2 (by omega)
  have k1 := (hc e he).1
  have k2 := (hc e he).2
  rw [hit] at k1 k2
  simp only at k1 k2
  have C := hid (fun w'' h => ht.2 w'' (hb.trans (Below.mono h hb.size)))
  obtain ⟨q, hq⟩ : ∃ q, q = evalT vs arg t := ⟨_, rfl⟩
  rw [← hq] at C ⊢
  obtain ⟨W, hW⟩ : ∃ W, W = w'.alloc (.cells #[.int .i64 19, .int .i64 k] 205) := ⟨_, rfl⟩
  have bW : Below w'.heap.size w' W := by rw [hW]; exact below1 _ _
  have hcc := pair_cells (show W.heap[w'.heap.size]? = some (.cells #[.int .i64 19, .int .i64 k] 205 (0, 0)) by rw [hW]; exact heap_alloc_new w' _)
  have q1 := cell_regrown hcc.2.1
  have BW := hid bW
  have HW := hid hW
  have hsz : w'.heap.size ≤ W.heap.size := bW.size
  have c54 : ∀ d os, Calls Tryz.prog 112 #[.slice (some ⟨b, off, none⟩) n c, .int .i64 e, .slice vo vn vc, .int .i64 arg] (grow (redrawn W d) os) fun r w'' => r = .returned (.int .i64 q) ∧ ∃ p : Regrown, w'' = grow (redrawn W p.d) p.os :=
    fun d os => Calls.regrown_of (C.out _ (BW.out.trans ((below_regrown W d os).mono hsz)))
  have c49 : ∀ d os, Calls Tryz.prog 73 #[.int .i64 k, .int .i64 q] (grow (redrawn W d) os) fun r w'' => r = .returned (.int .i64 (conv k q)) ∧ ∃ p : Regrown, w'' = grow (redrawn W p.d) p.os :=
    fun d os => Calls.regrown_of (l1Conv_any k q _ h1 h7)
  clear hc hs hb hit ht hq hcc bW hW
  have hlt : (e : Int) < (n : Int) := by omega
  go_enter Tryz.func112, Tryz.ntmps112
  go_wp2
  rw [← HW.out]
  refine wp_region_quiet_below (by kernel_rfl) (by kernel_rfl) ?_
  repeat (any_goals (first | go_big_quiet_step (first | exact c54 _ _ | exact c49 _ _) | quiet_step (first | exact c54 _ _ | exact c49 _ _)))
  refine wpQuiet_nil ?_
  intro _ hw'
  obtain ⟨⟨dq, osq⟩, hw''⟩ := hw'
  subst hw''
  go_wp2
  go_ret
  exact ⟨rfl, BW.out.trans ((below_regrown W dq osq).mono hsz)⟩

theorem val_step (hs : ItemsOf w ao n its) (hv : SliceOf w vo vn vs) (hn : n ≤ 1048576) (hx : ∀ i, I64 (vs.getD i 0)) (ha : I64 arg) : ∀ e st t, e < its.length → Seg (ValAt w ao n c vo vn vc vs arg) its e st → stepT vn (its.getD e (0, 0)).1 (its.getD e (0, 0)).2 st = some (t, st.drop (arity (opAt its e))) → ValAt w ao n c vo vn vc vs arg (e + 1) t := by
  intro e st t he hseg h
  have he' : e < n := by rw [← hs.1]; exact he
  obtain ⟨⟨op, val⟩, hit⟩ : ∃ p, its.getD e (0, 0) = p := ⟨_, rfl⟩
  have hop : opAt its e = op := by unfold opAt; rw [hit]
  rw [hit, hop] at h
  simp only at h
  unfold stepT at h
  split at h
  · rename_i h1
    subst h1
    split at h <;> simp at h
    rename_i hv
    rw [← h.1]
    exact val_num hs hn he' hit (by unfold I64; omega)
  split at h
  · rename_i h1
    subst h1
    split at h <;> simp at h
    rename_i hvv
    rw [← h.1]
    obtain ⟨k, rfl⟩ : ∃ k : Nat, val = k := ⟨val.toNat, by omega⟩
    exact val_var hs hv hn he' (by omega) hit hx
  split at h
  · rename_i h1
    subst h1
    split at h
    · rename_i hvv
      split at h <;> simp at h
      rw [← h.1]
      exact val_conv hs hn he' hvv.1 hvv.2 hit hseg.2.1
    · simp at h
  split at h
  · simp at h
  split at h
  · rename_i h1
    subst h1
    simp at h
    rw [← h.1]
    exact val_arg hs hn he' hit ha
  split at h
  · rename_i h1
    subst h1
    split at h <;> simp at h
    rw [← h.1]
    exact val_no hs hn he' hit hseg.2.1
  · split at h
    · split at h <;> simp at h
      rename_i hbo
      rw [← h.1]
      exact val_bin hs hn he' hbo hit hseg.2.1 hseg.1 hseg.2.2.2.1
    · simp at h

theorem value_top (hs : ItemsOf w ao n its) (hv : SliceOf w vo vn vs) (hx : ∀ i, I64 (vs.getD i 0)) (ha : I64 arg) {t : Tree} (hl : liftT its vn = some t) : ValAt w ao n c vo vn vc vs arg n t := by
  obtain ⟨_, h2, h3⟩ := liftT_some hl
  have hn : n ≤ 1048576 := by rw [← hs.1]; omega
  have e : its.take its.length = its := List.take_length
  obtain ⟨hseg, _⟩ := run_seg (P := ValAt w ao n c vo vn vc vs arg) (its := its) (vars := vn) (val_step hs hv hn hx ha) its.length [t] (Nat.le_refl _) (by rw [e]; exact h3)
  have := hseg.2.1
  rw [hs.1] at this
  exact this
end

end Go.Proofs.YtiimkhepplkocaaGreat

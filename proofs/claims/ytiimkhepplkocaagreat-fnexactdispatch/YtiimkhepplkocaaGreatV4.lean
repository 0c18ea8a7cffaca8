import Derived.Test.YtiimkhepplkocaaGreatV3
namespace Go.Proofs.YtiimkhepplkocaaGreat
open Go.RowKit Go.Sort
attribute [local go_sem ↓] Go.wp_at_zero Go.wp_at_succ

/-- The value of a code, by its tree. -/
def codeV (n : Int) (vs : List Int) (arg : Int) (code : List (Int × Int)) : Int := match liftT code n with | some t => evalT vs arg t | none => 0
/-- What a statement makes of the values, and its effects. -/
def stepS (n : Int) (ks : List Int) (arg : Int) (vs : List Int) (s : StmD) : List Int × List EffD :=
  if s.kind = 1 then (vs.set s.a.toNat (conv (ks.getD s.a.toNat 0) (codeV n vs arg s.code)), [])
  else (vs, [⟨s.kind, s.a, s.b, if hasB s.kind then codeV n vs arg s.code else 0⟩])
def execS (n : Int) (ks : List Int) (arg : Int) : List Int → List StmD → List Int × List EffD
  | vs, [] => (vs, [])
  | vs, s :: r => ((execS n ks arg (stepS n ks arg vs s).1 r).1, (stepS n ks arg vs s).2 ++ (execS n ks arg (stepS n ks arg vs s).1 r).2)
theorem execS_append (n : Int) (ks : List Int) (arg : Int) (b : List StmD) : ∀ (a : List StmD) (vs : List Int), execS n ks arg vs (a ++ b) = ((execS n ks arg (execS n ks arg vs a).1 b).1, (execS n ks arg vs a).2 ++ (execS n ks arg (execS n ks arg vs a).1 b).2) := by
  intro a
  induction a with
  | nil => intro vs; simp [execS]
  | cons s r ih => intro vs; simp [execS, ih]
theorem stepS_len (n : Int) (ks : List Int) (arg : Int) (vs : List Int) (s : StmD) : (stepS n ks arg vs s).1.length = vs.length ∧ (stepS n ks arg vs s).2.length ≤ 1 := by
  unfold stepS
  split <;> simp
theorem execS_len (n : Int) (ks : List Int) (arg : Int) : ∀ (a : List StmD) (vs : List Int), (execS n ks arg vs a).1.length = vs.length ∧ (execS n ks arg vs a).2.length ≤ a.length := by
  intro a
  induction a with
  | nil => intro vs; simp [execS]
  | cons s r ih =>
    intro vs
    have h1 := stepS_len n ks arg vs s
    have h2 := ih (stepS n ks arg vs s).1
    simp only [execS, List.length_append, List.length_cons]
    omega

def cname : String := "loop.example/s0063/impl.carryOut"
set_option maxRecDepth 100000 in
theorem cm_set (a b : Value) (mb : Nat) (w : World) : (callMethod (.iface 268 (.agg #[a, b])) cname #[.pointer (some ⟨mb, 0, none⟩)]).run Tryz.prog w = .ok (.enter 219 #[.agg #[a, b], .pointer (some ⟨mb, 0, none⟩)]) w := by kernel_rfl
set_option maxRecDepth 100000 in
theorem cm_emit (a : Value) (mb : Nat) (w : World) : (callMethod (.iface 270 (.agg #[a])) cname #[.pointer (some ⟨mb, 0, none⟩)]).run Tryz.prog w = .ok (.enter 220 #[.agg #[a], .pointer (some ⟨mb, 0, none⟩)]) w := by kernel_rfl
set_option maxRecDepth 100000 in
theorem cm_post (a b c : Value) (mb : Nat) (w : World) : (callMethod (.iface 272 (.agg #[a, b, c])) cname #[.pointer (some ⟨mb, 0, none⟩)]).run Tryz.prog w = .ok (.enter 221 #[.agg #[a, b, c], .pointer (some ⟨mb, 0, none⟩)]) w := by kernel_rfl
set_option maxRecDepth 100000 in
theorem cm_front (a b c : Value) (mb : Nat) (w : World) : (callMethod (.iface 273 (.agg #[a, b, c])) cname #[.pointer (some ⟨mb, 0, none⟩)]).run Tryz.prog w = .ok (.enter 222 #[.agg #[a, b, c], .pointer (some ⟨mb, 0, none⟩)]) w := by kernel_rfl
set_option maxRecDepth 100000 in
theorem cm_publish (a b : Value) (mb : Nat) (w : World) : (callMethod (.iface 275 (.agg #[a, b])) cname #[.pointer (some ⟨mb, 0, none⟩)]).run Tryz.prog w = .ok (.enter 223 #[.agg #[a, b], .pointer (some ⟨mb, 0, none⟩)]) w := by kernel_rfl
set_option maxRecDepth 100000 in
theorem cm_defer (mb : Nat) (w : World) : (callMethod (.iface 263 (.agg #[])) cname #[.pointer (some ⟨mb, 0, none⟩)]).run Tryz.prog w = .ok (.enter 215 #[.agg #[], .pointer (some ⟨mb, 0, none⟩)]) w := by kernel_rfl
set_option maxRecDepth 100000 in
theorem cm_recall (mb : Nat) (w : World) : (callMethod (.iface 264 (.agg #[])) cname #[.pointer (some ⟨mb, 0, none⟩)]).run Tryz.prog w = .ok (.enter 217 #[.agg #[], .pointer (some ⟨mb, 0, none⟩)]) w := by kernel_rfl
set_option maxRecDepth 100000 in
theorem cm_arm (a b c : Value) (mb : Nat) (w : World) : (callMethod (.iface 277 (.agg #[a, b, c])) cname #[.pointer (some ⟨mb, 0, none⟩)]).run Tryz.prog w = .ok (.enter 224 #[.agg #[a, b, c], .pointer (some ⟨mb, 0, none⟩)]) w := by kernel_rfl
set_option maxRecDepth 100000 in
theorem cm_disarm (a : Value) (mb : Nat) (w : World) : (callMethod (.iface 266 (.agg #[a])) cname #[.pointer (some ⟨mb, 0, none⟩)]).run Tryz.prog w = .ok (.enter 218 #[.agg #[a], .pointer (some ⟨mb, 0, none⟩)]) w := by kernel_rfl

/-- A node that carries its statement out, whatever the moment holds. -/
def Carries (l : LimD) (s : StmD) (v : Value) : Prop := ∀ (mb : Nat), ∃ y x f, v = .iface y x ∧ (∀ w : World, (callMethod (.iface y x) cname #[.pointer (some ⟨mb, 0, none⟩)]).run Tryz.prog w = .ok (.enter f #[x, .pointer (some ⟨mb, 0, none⟩)]) w) ∧
  ∀ (B : Nat) (ks vs : List Int) (arg : Int) (es : List EffD) (w : World), l.v = vs.length → ks.length = vs.length → (∀ i, i < ks.length → 1 ≤ ks.getD i 0 ∧ ks.getD i 0 ≤ 7) → es.length ≤ 1000000 → B ≤ w.heap.size → Mom w B mb ks vs arg es →
    Calls Tryz.prog f #[x, .pointer (some ⟨mb, 0, none⟩)] w fun e w' => e = .returned (.tuple #[]) ∧ Mom w' B mb ks (stepS l.v ks arg vs s).1 arg (es ++ (stepS l.v ks arg vs s).2) ∧ Stir B w w'

/-- The code's value, on the moment. -/
theorem val_of {l : LimD} {code : List (Int × Int)} {t : Tree} {mb B : Nat} {ks vs : List Int} {arg : Int} {es : List EffD} {w : World} (ht : liftT code l.v = some t) (hl : l.v = vs.length) (hM : Mom w B mb ks vs arg es) : Val w (fnOf t) (pl t) (.pointer (some ⟨mb, 0, none⟩)) (evalT vs arg t) := fun w' hb => by
  have hwf := liftT_wf ht
  rw [hl] at hwf
  exact value_any mb vs arg t hwf w' (hM.at.below hb)

theorem carry_emit {l : LimD} {s : StmD} {t : Tree} (hk0 : s.kind = 2) (ht : liftT s.code l.v = some t) (ha : s.a = 0) (hb0 : s.b = 0) : Carries l s (.iface 270 (.agg #[tv t])) := by
  intro mb
  refine ⟨_, _, 220, rfl, fun w => cm_emit  _ mb w, fun B ks vs arg es w hl hkv hk he hB hM => ?_⟩
  obtain ⟨y, x, hy⟩ := tv_form t
  have hx := pl_of hy
  have hwf := liftT_wf ht
  have hst : stepS l.v ks arg vs s = (vs, [⟨2, 0, 0, evalT vs arg t⟩]) := by
    simp [stepS, hk0, hasB, codeV, ht, ha, hb0]
  rw [hst, hy]
  refine (emitNode_low y (fnOf t) x mb (evalT vs arg t) w B (fun w' w'' => Mom w' B mb ks vs arg es → B ≤ w'.heap.size → Mom w'' B mb ks vs arg (es ++ [⟨2, 0, 0, evalT vs arg t⟩]) ∧ Stir B w' w'') (fun w => ?_) ?_ (fun w' hb => ?_)).mono ?_
  · rw [← hy, hx]; exact cm_any _ t hwf _ w
  · rw [hx]; exact val_of ht hl hM
  · exact (note_any mb ks vs arg es ⟨2, 0, 0, evalT vs arg t⟩ B w' he (Nat.le_trans hB hb.size) (hM.below hb)).mono fun e w'' ⟨h1, h2, h3⟩ => ⟨h1, fun _ _ => ⟨h2, h3⟩, h3⟩
  · rintro e w2 ⟨he, w3, hb3, hR⟩
    obtain ⟨r1, r2⟩ := hR (hM.below hb3) (Nat.le_trans hB hb3.size)
    exact ⟨he, r1, (Stir.of_below hb3).trans r2⟩

theorem carry_post {l : LimD} {s : StmD} {t : Tree} (hk0 : s.kind = 3) (ht : liftT s.code l.v = some t) : Carries l s (.iface 272 (.agg #[.int .i64 s.a, .int .i64 s.b, tv t])) := by
  intro mb
  refine ⟨_, _, 221, rfl, fun w => cm_post _ _ _ mb w, fun B ks vs arg es w hl hkv hk he hB hM => ?_⟩
  obtain ⟨y, x, hy⟩ := tv_form t
  have hx := pl_of hy
  have hwf := liftT_wf ht
  have hst : stepS l.v ks arg vs s = (vs, [⟨3, s.a, s.b, evalT vs arg t⟩]) := by
    simp [stepS, hk0, hasB, codeV, ht]
  rw [hst, hy]
  refine (postNode_low y (fnOf t) x s.a s.b mb (evalT vs arg t) w B (fun w' w'' => Mom w' B mb ks vs arg es → B ≤ w'.heap.size → Mom w'' B mb ks vs arg (es ++ [⟨3, s.a, s.b, evalT vs arg t⟩]) ∧ Stir B w' w'') (fun w => ?_) ?_ (fun w' hb => ?_)).mono ?_
  · rw [← hy, hx]; exact cm_any _ t hwf _ w
  · rw [hx]; exact val_of ht hl hM
  · exact (note_any mb ks vs arg es ⟨3, s.a, s.b, evalT vs arg t⟩ B w' he (Nat.le_trans hB hb.size) (hM.below hb)).mono fun e w'' ⟨h1, h2, h3⟩ => ⟨h1, fun _ _ => ⟨h2, h3⟩, h3⟩
  · rintro e w2 ⟨he, w3, hb3, hR⟩
    obtain ⟨r1, r2⟩ := hR (hM.below hb3) (Nat.le_trans hB hb3.size)
    exact ⟨he, r1, (Stir.of_below hb3).trans r2⟩

theorem carry_front {l : LimD} {s : StmD} {t : Tree} (hk0 : s.kind = 4) (ht : liftT s.code l.v = some t) : Carries l s (.iface 273 (.agg #[.int .i64 s.a, .int .i64 s.b, tv t])) := by
  intro mb
  refine ⟨_, _, 222, rfl, fun w => cm_front _ _ _ mb w, fun B ks vs arg es w hl hkv hk he hB hM => ?_⟩
  obtain ⟨y, x, hy⟩ := tv_form t
  have hx := pl_of hy
  have hwf := liftT_wf ht
  have hst : stepS l.v ks arg vs s = (vs, [⟨4, s.a, s.b, evalT vs arg t⟩]) := by
    simp [stepS, hk0, hasB, codeV, ht]
  rw [hst, hy]
  refine (frontNode_low y (fnOf t) x s.a s.b mb (evalT vs arg t) w B (fun w' w'' => Mom w' B mb ks vs arg es → B ≤ w'.heap.size → Mom w'' B mb ks vs arg (es ++ [⟨4, s.a, s.b, evalT vs arg t⟩]) ∧ Stir B w' w'') (fun w => ?_) ?_ (fun w' hb => ?_)).mono ?_
  · rw [← hy, hx]; exact cm_any _ t hwf _ w
  · rw [hx]; exact val_of ht hl hM
  · exact (note_any mb ks vs arg es ⟨4, s.a, s.b, evalT vs arg t⟩ B w' he (Nat.le_trans hB hb.size) (hM.below hb)).mono fun e w'' ⟨h1, h2, h3⟩ => ⟨h1, fun _ _ => ⟨h2, h3⟩, h3⟩
  · rintro e w2 ⟨he, w3, hb3, hR⟩
    obtain ⟨r1, r2⟩ := hR (hM.below hb3) (Nat.le_trans hB hb3.size)
    exact ⟨he, r1, (Stir.of_below hb3).trans r2⟩

theorem carry_publish {l : LimD} {s : StmD} {t : Tree} (hk0 : s.kind = 5) (ht : liftT s.code l.v = some t) (ha : s.a = 0) : Carries l s (.iface 275 (.agg #[.int .i64 s.b, tv t])) := by
  intro mb
  refine ⟨_, _, 223, rfl, fun w => cm_publish _ _ mb w, fun B ks vs arg es w hl hkv hk he hB hM => ?_⟩
  obtain ⟨y, x, hy⟩ := tv_form t
  have hx := pl_of hy
  have hwf := liftT_wf ht
  have hst : stepS l.v ks arg vs s = (vs, [⟨5, 0, s.b, evalT vs arg t⟩]) := by
    simp [stepS, hk0, hasB, codeV, ht, ha]
  rw [hst, hy]
  refine (publishNode_low y (fnOf t) x s.b mb (evalT vs arg t) w B (fun w' w'' => Mom w' B mb ks vs arg es → B ≤ w'.heap.size → Mom w'' B mb ks vs arg (es ++ [⟨5, 0, s.b, evalT vs arg t⟩]) ∧ Stir B w' w'') (fun w => ?_) ?_ (fun w' hb => ?_)).mono ?_
  · rw [← hy, hx]; exact cm_any _ t hwf _ w
  · rw [hx]; exact val_of ht hl hM
  · exact (note_any mb ks vs arg es ⟨5, 0, s.b, evalT vs arg t⟩ B w' he (Nat.le_trans hB hb.size) (hM.below hb)).mono fun e w'' ⟨h1, h2, h3⟩ => ⟨h1, fun _ _ => ⟨h2, h3⟩, h3⟩
  · rintro e w2 ⟨he, w3, hb3, hR⟩
    obtain ⟨r1, r2⟩ := hR (hM.below hb3) (Nat.le_trans hB hb3.size)
    exact ⟨he, r1, (Stir.of_below hb3).trans r2⟩

theorem carry_arm {l : LimD} {s : StmD} {t : Tree} (hk0 : s.kind = 8) (ht : liftT s.code l.v = some t) : Carries l s (.iface 277 (.agg #[.int .i64 s.a, .int .i64 s.b, tv t])) := by
  intro mb
  refine ⟨_, _, 224, rfl, fun w => cm_arm _ _ _ mb w, fun B ks vs arg es w hl hkv hk he hB hM => ?_⟩
  obtain ⟨y, x, hy⟩ := tv_form t
  have hx := pl_of hy
  have hwf := liftT_wf ht
  have hst : stepS l.v ks arg vs s = (vs, [⟨8, s.a, s.b, evalT vs arg t⟩]) := by
    simp [stepS, hk0, hasB, codeV, ht]
  rw [hst, hy]
  refine (armNode_low y (fnOf t) x s.a s.b mb (evalT vs arg t) w B (fun w' w'' => Mom w' B mb ks vs arg es → B ≤ w'.heap.size → Mom w'' B mb ks vs arg (es ++ [⟨8, s.a, s.b, evalT vs arg t⟩]) ∧ Stir B w' w'') (fun w => ?_) ?_ (fun w' hb => ?_)).mono ?_
  · rw [← hy, hx]; exact cm_any _ t hwf _ w
  · rw [hx]; exact val_of ht hl hM
  · exact (note_any mb ks vs arg es ⟨8, s.a, s.b, evalT vs arg t⟩ B w' he (Nat.le_trans hB hb.size) (hM.below hb)).mono fun e w'' ⟨h1, h2, h3⟩ => ⟨h1, fun _ _ => ⟨h2, h3⟩, h3⟩
  · rintro e w2 ⟨he, w3, hb3, hR⟩
    obtain ⟨r1, r2⟩ := hR (hM.below hb3) (Nat.le_trans hB hb3.size)
    exact ⟨he, r1, (Stir.of_below hb3).trans r2⟩

theorem carry_defer {l : LimD} {s : StmD} (hk0 : s.kind = 6) (ha : s.a = 0) (hb0 : s.b = 0) : Carries l s (.iface 263 (.agg #[])) := by
  intro mb
  refine ⟨_, _, 215, rfl, fun w => cm_defer mb w, fun B ks vs arg es w hl hkv hk he hB hM => ?_⟩
  have hst : stepS l.v ks arg vs s = (vs, [⟨6, 0, 0, 0⟩]) := by
    simp [stepS, hk0, hasB, ha, hb0]
  rw [hst]
  exact (deferNode_low mb w B ks vs arg es he hB hM).mono fun e w' h => h

theorem carry_recall {l : LimD} {s : StmD} (hk0 : s.kind = 7) (ha : s.a = 0) (hb0 : s.b = 0) : Carries l s (.iface 264 (.agg #[])) := by
  intro mb
  refine ⟨_, _, 217, rfl, fun w => cm_recall mb w, fun B ks vs arg es w hl hkv hk he hB hM => ?_⟩
  have hst : stepS l.v ks arg vs s = (vs, [⟨7, 0, 0, 0⟩]) := by
    simp [stepS, hk0, hasB, ha, hb0]
  rw [hst]
  exact (recallNode_low mb w B ks vs arg es he hB hM).mono fun e w' h => h

theorem carry_disarm {l : LimD} {s : StmD} (hk0 : s.kind = 9) (hb0 : s.b = 0) : Carries l s (.iface 266 (.agg #[.int .i64 s.a])) := by
  intro mb
  refine ⟨_, _, 218, rfl, fun w => cm_disarm _ mb w, fun B ks vs arg es w hl hkv hk he hB hM => ?_⟩
  have hst : stepS l.v ks arg vs s = (vs, [⟨9, s.a, 0, 0⟩]) := by
    simp [stepS, hk0, hasB, hb0]
  rw [hst]
  exact (disarmNode_low s.a mb w B ks vs arg es he hB hM).mono fun e w' h => h

theorem carry_set {l : LimD} {s : StmD} {t : Tree} (hk0 : s.kind = 1) (ht : liftT s.code l.v = some t) (ha0 : 0 ≤ s.a) (ha1 : s.a < l.v) : Carries l s (.iface 268 (.agg #[.int .i64 s.a, tv t])) := by
  intro mb
  refine ⟨_, _, 219, rfl, fun w => cm_set _ _ mb w, fun B ks vs arg es w hl hkv hk he hB hM => ?_⟩
  obtain ⟨y, x, hy⟩ := tv_form t
  have hx := pl_of hy
  have hwf := liftT_wf ht
  obtain ⟨i, hi⟩ : ∃ i : Nat, s.a = i := ⟨s.a.toNat, by omega⟩
  have hst : stepS l.v ks arg vs s = (vs.set i (conv (ks.getD i 0) (evalT vs arg t)), []) := by
    simp [stepS, hk0, codeV, ht, hi]
  have hik : i < ks.length := by omega
  rw [hst, hy, hi]
  simp only [List.append_nil]
  refine (setNode_low y (fnOf t) x mb i (evalT vs arg t) w (fun w' w'' => Mom w' B mb ks vs arg es → Mom w'' B mb ks (vs.set i (conv (ks.getD i 0) (evalT vs arg t))) arg es ∧ Stir B w' w'') (fun w => ?_) ?_ (fun w' hb => ?_)).mono ?_
  · rw [← hy, hx]; exact cm_any _ t hwf _ w
  · rw [hx]; exact val_of ht hl hM
  · exact (mom_set mb i ks vs arg (evalT vs arg t) es B w' hik (by omega) (hk i hik).1 (hk i hik).2 (hM.below hb)).mono fun e w'' ⟨h1, h2, h3⟩ => ⟨h1, fun _ => ⟨h2, h3⟩⟩
  · rintro e w2 ⟨he, w3, hb3, hR⟩
    obtain ⟨r1, r2⟩ := hR (hM.below hb3)
    exact ⟨he, r1, (Stir.of_below hb3).trans r2⟩

/-- Whatever node an entry is lifted to, it carries the entry out. -/
theorem carry_any {l : LimD} {s : StmD} {v : Value} (h : nodeOf l s = some v) : Carries l s v := by
  unfold nodeOf at h
  split at h
  · cases h
  · rename_i hf
    simp only [fieldsB, Bool.not_eq_false, Bool.and_eq_true, decide_eq_true_eq] at hf
    obtain ⟨⟨hfa, hfb⟩, hfc⟩ := hf
    split at h
    · rename_i hk0; simp [fieldA, hk0] at hfa; simp [fieldB, hk0] at hfb; cases h; exact carry_defer hk0 (by omega) (by omega)
    · split at h
      · rename_i hk0; simp [fieldA, hk0] at hfa; simp [fieldB, hk0] at hfb; cases h; exact carry_recall hk0 (by omega) (by omega)
      · split at h
        · rename_i hk0; simp [fieldB, hk0] at hfb; cases h; exact carry_disarm hk0 (by omega)
        · cases ht : liftT s.code l.v with
          | none => rw [ht] at h; cases h
          | some t =>
            rw [ht] at h
            simp only [Option.bind_some] at h
            split at h
            · rename_i hk0; simp [fieldA, hk0] at hfa; cases h; exact carry_set hk0 ht (by omega) (by omega)
            · split at h
              · rename_i hk0; simp [fieldA, hk0] at hfa; simp [fieldB, hk0] at hfb; cases h; exact carry_emit hk0 ht (by omega) (by omega)
              · split at h
                · rename_i hk0; cases h; exact carry_post hk0 ht
                · split at h
                  · rename_i hk0; cases h; exact carry_front hk0 ht
                  · split at h
                    · rename_i hk0; simp [fieldA, hk0] at hfa; cases h; exact carry_publish hk0 ht (by omega)
                    · split at h
                      · rename_i hk0; cases h; exact carry_arm hk0 ht
                      · cases h
end Go.Proofs.YtiimkhepplkocaaGreat

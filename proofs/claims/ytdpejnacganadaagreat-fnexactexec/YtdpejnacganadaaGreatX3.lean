import Derived.Test.YtdpejnacganadaaGreatX2
namespace Go.Proofs.YtdpejnacganadaaGreat
open Go.RowKit Go.Sort

theorem attempt_gen (f : Nat) (caps : Array Value) (w : World) (R : World → Prop) (hent : ∀ (args : Array Value) (w : World), (callFunc f args).run Tryz.prog w = .ok (.enter f args) w)
    (hR : ∀ w', R w' → w'.heap[w.heap.size]? = some (.cells #[.nilIface] 60 (0, 0)))
    (h : Calls Tryz.prog f caps (w.alloc (.cells #[.nilIface] 60)) fun e w' => e = .returned (.tuple #[]) ∧ R w') :
    Calls Tryz.prog 26 #[.func (.func f) #[] caps] w fun e w' => e = .returned .nilIface ∧ ∃ w1, R w1 ∧ w' = w1.setCell ⟨w.heap.size, 0, none⟩ .nilIface := by
  have hmf : ∀ (fn : Fn) (first cap : Array Value) (w : World), (Instr.makeFunc fn first cap).run Tryz.prog w = .ok (.func fn first cap) w := fun _ _ _ _ => rfl
  have H := hid h
  clear h
  go_enter_defers Tryz.func26, Tryz.ntmps26
  go_wp2_with fail
  refine H.out.mono ?_
  rintro e w1 ⟨rfl, hr⟩
  have HR := hid hr
  have hc := cell_of_one (hR w1 hr)
  have hf := free_of_one (hR w1 hr)
  clear hr
  go_wp2
  refine leaves_cons (f := 49) (args := #[.pointer (some ⟨w.heap.size, 0, none⟩)]) (by simp) (by simp [go_sem]) ?_
  refine (catch_idle ⟨w.heap.size, 0, none⟩ _).mono ?_
  rintro e u' w'' ⟨rfl, rfl, rfl⟩
  simp [Leaves, settle, results, Tryz.results26, go_sem, hc]
  exact ⟨w1, HR.out, rfl⟩

theorem nil_neq (w : World) : (binOp BinOp.neq 60 .nilIface .nilIface).run Tryz.prog w = .ok (.bool false) w := by kernel_rfl

set_option maxRecDepth 100000 in
theorem err_neq (s : ByteArray) (w : World) : (binOp BinOp.neq 60 (.iface 89 (.string s)) .nilIface).run Tryz.prog w = .ok (.bool true) w := by kernel_rfl

/-- A tree that was lifted is right for its variables. -/
theorem stepT_wf {vars op val : Int} {st : List Tree} {p : Tree × List Tree} (h : stepT vars op val st = some p) (hs : ∀ t ∈ st, WfT vars t) : WfT vars p.1 ∧ ∀ t ∈ p.2, WfT vars t := by
  unfold stepT at h
  split at h
  · split at h <;> simp at h; rename_i hv; subst h; exact ⟨hv, hs⟩
  split at h
  · split at h <;> simp at h; rename_i hv; subst h; exact ⟨hv, hs⟩
  split at h
  · split at h
    · rename_i hv
      split at h <;> simp at h
      subst h
      exact ⟨⟨hv, hs _ (by simp)⟩, fun t ht => hs t (by simp [ht])⟩
    · simp at h
  split at h
  · simp at h
  split at h
  · simp at h; subst h; exact ⟨trivial, hs⟩
  split at h
  · split at h <;> simp at h
    subst h
    refine ⟨?_, fun t ht => hs t (by simp [ht])⟩
    simp only [WfT]
    exact hs _ (by simp)
  · split at h
    · split at h <;> simp at h
      rename_i hop
      subst h
      exact ⟨⟨hop, hs _ (by simp), hs _ (by simp)⟩, fun t ht => hs t (by simp [ht])⟩
    · simp at h

theorem runT_wf (vars : Int) : ∀ (its : List (Int × Int)) (st st' : List Tree), (∀ t ∈ st, WfT vars t) → runT vars its st = some st' → ∀ t ∈ st', WfT vars t := by
  intro its
  induction its with
  | nil => intro st st' hs h; simp [runT] at h; subst h; exact hs
  | cons x r ih =>
    intro st st' hs h
    simp only [runT] at h
    split at h
    · rename_i p hp
      obtain ⟨h1, h2⟩ := stepT_wf hp hs
      refine ih _ _ (fun t ht => ?_) h
      rcases List.mem_cons.1 ht with e | ht
      · rw [e]; exact h1
      · exact h2 t ht
    · simp at h

theorem liftT_wf {its : List (Int × Int)} {vars : Int} {t : Tree} (h : liftT its vars = some t) : WfT vars t :=
  runT_wf vars its [] [t] (by simp) (liftT_some h).2.2 t (by simp)

/-- What Eval answers. -/
def evI (its : List (Int × Int)) (ks vs : List Int) (arg : Int) : Int := if bankB ks vs then (match liftT its vs.length with | some t => evalT vs arg t | none => 0) else 0

theorem Away.belowAt {sb B : Nat} {a b : World} (h : Away sb a b) (h1 : B ≤ sb) (h2 : B ≤ a.heap.size) : Below B a b := ⟨h.os, h.tape, h.output, h.size, fun i hi => h.block i (by omega) (by omega)⟩

theorem momNew {w w2 : World} {k e : Value} {vo : Option Addr} {vn vc : Nat} {vs : List Int} {arg : Int} (_ : Below w.heap.size w w2) (hv : SliceOf w2 vo vn vs) :
    MomAt (w2.alloc (.cells #[k, .slice vo vn vc, .int .i64 arg, e] 68)) w2.heap.size vs arg := by
  obtain ⟨c0, c1, c2, c3⟩ := quad_cells (heap_alloc_new w2 (.cells #[k, .slice vo vn vc, .int .i64 arg, e] 68))
  exact ⟨by simp, c2, vo, vn, vc, c1, hv.below (below1 _ _)⟩

end Go.Proofs.YtdpejnacganadaaGreat

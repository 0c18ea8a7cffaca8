import Derived.Test.YtkcbomhhdfgihaaGreatN6
namespace Go.Proofs.YtkcbomhhdfgihaaGreat
open Go.RowKit Go.Sort

theorem nil_nil (w : World) : (binOp BinOp.eql 20 .nilIface .nilIface).run Tryz.prog w = .ok (.bool true) w := by kernel_rfl

set_option maxRecDepth 100000 in
theorem pan_nil (s : ByteArray) (w : World) : (binOp BinOp.eql 20 (.iface 179 (.string s)) .nilIface).run Tryz.prog w = .ok (.bool false) w := by kernel_rfl

set_option maxRecDepth 100000 in
theorem pan_err (s : ByteArray) (w : World) : (Instr.typeAssert (.iface 179 (.string s)) 20 159 true).run Tryz.prog w = .ok (.tuple #[.iface 179 (.string s), .bool true]) w := by kernel_rfl

theorem catch_idle (p : Addr) (w : World) :
    CallsD Tryz.prog 118 #[.pointer (some p)] .returning w fun e u' w' => e = .returned (.tuple #[]) ∧ u' = .returning ∧ w' = w := by
  refine callsD_of_wpS Tryz.func118 rfl fun c₀ cs hu => ?_
  have h1 := nil_nil
  apply wpS_seq
  apply wpS_region
  simp [wpOpsS, go_sem, recoverD, hu, Tryz.ntmps118, Exit.thenS]
  refine wpS_of_wp ?_
  go_wp2
  cases c₀
  simp_all [bodyPostS, results, Tryz.results118]

set_option maxHeartbeats 400000 in
theorem catch_panicking (p : Addr) (x : Value) (s : ByteArray) (older : List PanicEntry) (w : World) (hc : w.cell? p = some x) (hz : w.frozen? p = false) :
    CallsD Tryz.prog 118 #[.pointer (some p)] (.panicking ({ v := .iface 179 (.string s), recovered := false } :: older)) w fun e u' w' =>
      e = .returned (.tuple #[]) ∧ u' = .panicking ({ v := .iface 179 (.string s), recovered := true } :: older) ∧ w' = w.setCell p (.iface 179 (.string s)) := by
  refine callsD_of_wpS Tryz.func118 rfl fun c₀ cs hu => ?_
  have h1 := pan_nil s
  have h2 := pan_err s
  apply wpS_seq
  apply wpS_region
  simp [wpOpsS, go_sem, recoverD, hu, Tryz.ntmps118, Exit.thenS]
  refine wpS_of_wp ?_
  have ef : (#[Value.pointer (some p)] ++ (Array.replicate 8 undef).setIfInBounds 2 (Value.iface 179 (.string s))) = #[Value.pointer (some p), undef, undef, .iface 179 (.string s), undef, undef, undef, undef, undef] := rfl
  rw [ef]
  clear ef
  go_wp2
  simp [bodyPostS, results, Tryz.results118]

/-- What attempt makes of a function that returns. -/
theorem attempt_yes (f : Nat) (caps : Array Value) (w : World) (R : World → Prop) (hent : ∀ (args : Array Value) (w : World), (callFunc f args).run Tryz.prog w = .ok (.enter f args) w)
    (h : Calls Tryz.prog f caps (w.alloc (.cells #[.nilIface] 159)) fun e w' => e = .returned (.tuple #[]) ∧ R w' ∧ Below (w.heap.size + 1) (w.alloc (.cells #[.nilIface] 159)) w') :
    Calls Tryz.prog 97 #[.func (.func f) #[] caps] w fun e w' => e = .returned .nilIface ∧ ∃ w1, R w1 ∧ Below (w.heap.size + 1) (w.alloc (.cells #[.nilIface] 159)) w1 ∧ w' = w1.setCell ⟨w.heap.size, 0, none⟩ .nilIface := by
  have hmf : ∀ (fn : Fn) (first cap : Array Value) (w : World), (Instr.makeFunc fn first cap).run Tryz.prog w = .ok (.func fn first cap) w := fun _ _ _ _ => rfl
  have H := hid h
  clear h
  go_enter_defers Tryz.func97, Tryz.ntmps97
  go_wp2_with fail
  refine H.out.mono ?_
  rintro e w1 ⟨rfl, hr, hb⟩
  have HR := hid hr
  have HB := hid hb
  have hc : w1.cell? ⟨w.heap.size, 0, none⟩ = some .nilIface := (hb.cell (p := ⟨w.heap.size, 0, none⟩) (by simp)).trans (by simp)
  have hf : w1.frozen? ⟨w.heap.size, 0, none⟩ = false := (hb.frozen (p := ⟨w.heap.size, 0, none⟩) (by simp)).trans (by simp [go_sem])
  clear hr hb
  go_wp2
  refine leaves_cons (f := 118) (args := #[.pointer (some ⟨w.heap.size, 0, none⟩)]) (by simp) (by simp [go_sem]) ?_
  refine (catch_idle ⟨w.heap.size, 0, none⟩ _).mono ?_
  rintro e u' w'' ⟨rfl, rfl, rfl⟩
  simp [Leaves, settle, results, Tryz.results97, go_sem, hc]
  exact ⟨w1, HR.out, HB.out, rfl⟩

/-- .. and of one that gives its list up. -/
theorem attempt_no (f : Nat) (caps : Array Value) (w : World) (hent : ∀ (args : Array Value) (w : World), (callFunc f args).run Tryz.prog w = .ok (.enter f args) w)
    (h : Calls Tryz.prog f caps (w.alloc (.cells #[.nilIface] 159)) fun e w' => Pan e ∧ Below (w.heap.size + 1) (w.alloc (.cells #[.nilIface] 159)) w') :
    Calls Tryz.prog 97 #[.func (.func f) #[] caps] w fun e w' => (∃ s, e = .returned (.iface 179 (.string s))) ∧ Below w.heap.size w w' := by
  have hmf : ∀ (fn : Fn) (first cap : Array Value) (w : World), (Instr.makeFunc fn first cap).run Tryz.prog w = .ok (.func fn first cap) w := fun _ _ _ _ => rfl
  have H := hid h
  clear h
  go_enter_defers Tryz.func97, Tryz.ntmps97
  go_wp2_with fail
  refine H.out.mono ?_
  rintro e w1 ⟨⟨s, rfl⟩, hb⟩
  have HB := hid hb
  have hc : w1.cell? ⟨w.heap.size, 0, none⟩ = some .nilIface := (hb.cell (p := ⟨w.heap.size, 0, none⟩) (by simp)).trans (by simp)
  have hf : w1.frozen? ⟨w.heap.size, 0, none⟩ = false := (hb.frozen (p := ⟨w.heap.size, 0, none⟩) (by simp)).trans (by simp [go_sem])
  clear hb
  go_wp2
  refine leaves_cons (f := 118) (args := #[.pointer (some ⟨w.heap.size, 0, none⟩)]) (by simp) (by simp [go_sem]) ?_
  refine (catch_panicking ⟨w.heap.size, 0, none⟩ .nilIface s [] _ hc hf).mono ?_
  rintro e u' w'' ⟨rfl, rfl, rfl⟩
  simp [Leaves, settle, results, Tryz.results97, go_sem, hc]
  exact ((below1 _ _).trans (HB.out.mono (by omega))).setCell (Nat.le_refl _) _

/-- The items one behind the other. -/
def runT (vars : Int) : List (Int × Int) → List Tree → Option (List Tree)
  | [], st => some st
  | x :: r, st => match stepT vars x.1 x.2 st with
    | some p => runT vars r (p.1 :: p.2)
    | none => none

theorem runT_append (vars : Int) (a b : List (Int × Int)) : ∀ st, runT vars (a ++ b) st = (runT vars a st).bind (runT vars b) := by
  induction a with
  | nil => intro st; rfl
  | cons x a ih =>
    intro st
    simp only [List.cons_append, runT]
    split
    · exact ih _
    · rfl

theorem stepT_len {vars op val : Int} {st : List Tree} {p : Tree × List Tree} (h : stepT vars op val st = some p) : p.2.length ≤ st.length := by
  unfold stepT at h
  split at h
  · split at h <;> simp at h; rw [← h]; simp
  split at h
  · split at h <;> simp at h; rw [← h]; simp
  split at h
  · split at h
    · split at h <;> simp at h; rw [← h]; simp
    · simp at h
  split at h
  · simp at h
  split at h
  · simp at h; rw [← h]; simp
  split at h
  · split at h <;> simp at h; rw [← h]; simp
  · split at h
    · split at h <;> simp at h; rw [← h]; simp; omega
    · simp at h

def onlyT : Option (List Tree) → Option Tree
  | some [t] => some t
  | _ => none

/-- The tree of an expression, if it is one. -/
def liftT (its : List (Int × Int)) (vars : Int) : Option Tree :=
  if (0 ≤ vars ∧ vars ≤ 32) ∧ (1 ≤ its.length ∧ its.length ≤ 200) then onlyT (runT vars its []) else none

def CodeEnd (w : World) (r : Option Tree) (e : Ending) (w' : World) : Prop :=
  match r with
  | some t => e = .returned (tv t) ∧ Below w.heap.size w w'
  | none => Pan e ∧ Below w.heap.size w w'

theorem split_at {its : List (Int × Int)} {k : Nat} (h : k < its.length) : its = its.take k ++ its.getD k (0, 0) :: its.drop (k + 1) := by
  have e : its.getD k (0, 0) = its[k] := by simp [List.getD_eq_getElem?_getD, List.getElem?_eq_getElem h]
  rw [e]
  simp

theorem take_succ_at {its : List (Int × Int)} {k : Nat} (h : k < its.length) : its.take (k + 1) = its.take k ++ [its.getD k (0, 0)] := by
  have e : its.getD k (0, 0) = its[k] := by simp [List.getD_eq_getElem?_getD, List.getElem?_eq_getElem h]
  rw [e, List.take_succ_eq_append_getElem h]

theorem enter_of {P : Program} {f : FuncId} {fn : Func} {c : Code} (hf : P.funcs[f]? = some fn) (hname : (fn.name == "runtime.NumGoroutine") = false) (hb : fn.body = some c) (args : Array Value) (w : World) : (callFunc f args).run P w = .ok (.enter f args) w := by
  have h1 : fn.name ≠ "runtime.NumGoroutine" := by simpa using hname
  simp [callFunc, hf, h1, hb]

end Go.Proofs.YtkcbomhhdfgihaaGreat

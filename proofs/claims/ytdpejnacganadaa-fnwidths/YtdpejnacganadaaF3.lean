import Derived.Test.YtdpejnacganadaaD2
import Derived.Test.YtdpejnacganadaaF2
namespace Go.Proofs.Ytdpejnacganadaa
open Go.RowKit Go.Sort

theorem attempt_gen (f : Nat) (caps : Array Value) (w : World) (R : World → Prop) (hent : ∀ (args : Array Value) (w : World), (callFunc f args).run Try.prog w = .ok (.enter f args) w)
    (hR : ∀ w', R w' → w'.heap[w.heap.size]? = some (.cells #[.nilIface] 64 (0, 0)))
    (h : Calls Try.prog f caps (w.alloc (.cells #[.nilIface] 64)) fun e w' => e = .returned (.tuple #[]) ∧ R w') :
    Calls Try.prog 29 #[.func (.func f) #[] caps] w fun e w' => e = .returned .nilIface ∧ ∃ w1, R w1 ∧ w' = w1.setCell ⟨w.heap.size, 0, none⟩ .nilIface := by
  have hmf : ∀ (fn : Fn) (first cap : Array Value) (w : World), (Instr.makeFunc fn first cap).run Try.prog w = .ok (.func fn first cap) w := fun _ _ _ _ => rfl
  have H := hid h
  clear h
  go_enter_defers Try.func29, Try.ntmps29
  go_wp2_with fail
  refine H.out.mono ?_
  rintro e w1 ⟨rfl, hr⟩
  have HR := hid hr
  have hc := cell_of_one (hR w1 hr)
  have hf := free_of_one (hR w1 hr)
  clear hr
  go_wp2
  refine leaves_cons (f := 57) (args := #[.pointer (some ⟨w.heap.size, 0, none⟩)]) (by simp) (by simp [go_sem]) ?_
  refine (catch_idle ⟨w.heap.size, 0, none⟩ _).mono ?_
  rintro e u' w'' ⟨rfl, rfl, rfl⟩
  simp [Leaves, settle, results, Try.results29, go_sem, hc]
  exact ⟨w1, HR.out, rfl⟩

theorem ents33 : ∀ (args : Array Value) (w : World), (callFunc 35 args).run Try.prog w = .ok (.enter 35 args) w := enter_of (f := 35) Try.func35 (by kernel_rfl) rfl

theorem nil_neq (w : World) : (binOp BinOp.neq 64 .nilIface .nilIface).run Try.prog w = .ok (.bool false) w := by kernel_rfl
set_option maxRecDepth 100000 in
theorem err_neq (s : ByteArray) (w : World) : (binOp BinOp.neq 64 (.iface 101 (.string s)) .nilIface).run Try.prog w = .ok (.bool true) w := by kernel_rfl

set_option maxHeartbeats 800000 in
/-- Eval's closure lifts the code and lays the tree. -/
theorem evalLit_yes (ao : Option Addr) (n c : Nat) (its : List (Int × Int)) (kv : Value) (vo : Option Addr) (vn vc : Nat) (t : Tree) (tb h0 h1 : Nat) (V : World) (hn : n ≤ 9223372036854775807) (hs : ItemsOf V ao n its)
    (d0 : V.heap[h0]? = some (.cells #[.slice ao n c] 33 (0, 0))) (d1 : V.heap[h1]? = some (.cells #[kv, .slice vo vn vc] 26 (0, 0))) (d2 : V.heap[tb]? = some (.cells #[.nilIface] 74 (0, 0))) (hl : liftT its vn = some t) :
    Calls Try.prog 35 #[.pointer (some ⟨h0, 0, none⟩), .pointer (some ⟨h1, 0, none⟩), .pointer (some ⟨tb, 0, none⟩)] V fun e w' => e = .returned (.tuple #[]) ∧ w'.heap[tb]? = some (.cells #[tv t] 74 (0, 0)) ∧ Away tb V w' := by
  have c0 := cell_of_one d0
  have c1 := (pair_cells d1).2.1
  have H := hid (liftCode_any ao n c its vn V hn hs)
  rw [hl] at H
  obtain ⟨y, x, hy⟩ := tv_form t
  unfold CodeEnd at H
  simp only [hy] at H
  rw [hy]
  have D2 := hid d2
  clear hs hl hy d0 d1 d2
  go_enter Try.func35, Try.ntmps35
  go_wp2_with (go_at_call 36; refine H.out.mono ?_; rintro e w1 ⟨rfl, hb⟩; have HB := hid hb; have b2 := block_below D2.out hb; have e2 := cell_of_one b2; have f2 := free_of_one b2; have B2 := hid b2; clear hb b2)
  go_end0
  exact ⟨rfl, one_setCell B2.out, (Away.of_below HB.out).trans (Away.set _ _ _ _)⟩

set_option maxHeartbeats 800000 in
theorem evalLit_no (ao : Option Addr) (n c : Nat) (its : List (Int × Int)) (kv : Value) (vo : Option Addr) (vn vc : Nat) (tb h0 h1 : Nat) (V : World) (hn : n ≤ 9223372036854775807) (hs : ItemsOf V ao n its)
    (d0 : V.heap[h0]? = some (.cells #[.slice ao n c] 33 (0, 0))) (d1 : V.heap[h1]? = some (.cells #[kv, .slice vo vn vc] 26 (0, 0))) (hl : liftT its vn = none) :
    Calls Try.prog 35 #[.pointer (some ⟨h0, 0, none⟩), .pointer (some ⟨h1, 0, none⟩), .pointer (some ⟨tb, 0, none⟩)] V fun e w' => Pan e ∧ Below V.heap.size V w' := by
  have c0 := cell_of_one d0
  have c1 := (pair_cells d1).2.1
  have H := hid (liftCode_any ao n c its vn V hn hs)
  rw [hl] at H
  unfold CodeEnd at H
  simp only at H
  clear hs hl d0 d1
  go_enter Try.func35, Try.ntmps35
  go_wp2_with (go_at_call 36; refine H.out.mono ?_; rintro e w1 ⟨⟨s, rfl⟩, hb⟩; have HB := hid hb; clear hb)
  exact ⟨rfl, ⟨_, rfl⟩, HB.out⟩

/-- A tree that was lifted is right for its variables. -/
theorem stepT_wf {vars op val : Int} {st : List Tree} {p : Tree × List Tree} (h : stepT vars op val st = some p) (hs : ∀ t ∈ st, WfT vars t) : WfT vars p.1 ∧ ∀ t ∈ p.2, WfT vars t := by
  unfold stepT at h
  split at h
  · split at h <;> simp at h; rename_i hv; subst h; exact ⟨hv, hs⟩
  split at h
  · split at h <;> simp at h; rename_i hv; subst h; exact ⟨hv, hs⟩
  split at h
  · split at h
    · rename_i hv
      split at h <;> simp at h
      subst h
      exact ⟨⟨hv, hs _ (by simp)⟩, fun t ht => hs t (by simp [ht])⟩
    · simp at h
  split at h
  · simp at h
  split at h
  · simp at h; subst h; exact ⟨trivial, hs⟩
  split at h
  · split at h <;> simp at h
    subst h
    refine ⟨?_, fun t ht => hs t (by simp [ht])⟩
    simp only [WfT]
    exact hs _ (by simp)
  · split at h
    · split at h <;> simp at h
      rename_i hop
      subst h
      exact ⟨⟨hop, hs _ (by simp), hs _ (by simp)⟩, fun t ht => hs t (by simp [ht])⟩
    · simp at h
theorem runT_wf (vars : Int) : ∀ (its : List (Int × Int)) (st st' : List Tree), (∀ t ∈ st, WfT vars t) → runT vars its st = some st' → ∀ t ∈ st', WfT vars t := by
  intro its
  induction its with
  | nil => intro st st' hs h; simp [runT] at h; subst h; exact hs
  | cons x r ih =>
    intro st st' hs h
    simp only [runT] at h
    split at h
    · rename_i p hp
      obtain ⟨h1, h2⟩ := stepT_wf hp hs
      refine ih _ _ (fun t ht => ?_) h
      rcases List.mem_cons.1 ht with e | ht
      · rw [e]; exact h1
      · exact h2 t ht
    · simp at h
theorem liftT_wf {its : List (Int × Int)} {vars : Int} {t : Tree} (h : liftT its vars = some t) : WfT vars t :=
  runT_wf vars its [] [t] (by simp) (liftT_some h).2.2 t (by simp)

/-- What Eval answers. -/
def evI (its : List (Int × Int)) (ks vs : List Int) (arg : Int) : Int := if bankB ks vs then (match liftT its vs.length with | some t => evalT vs arg t | none => 0) else 0

theorem Away.belowAt {sb B : Nat} {a b : World} (h : Away sb a b) (h1 : B ≤ sb) (h2 : B ≤ a.heap.size) : Below B a b := ⟨h.os, h.tape, h.output, h.size, fun i hi => h.block i (by omega) (by omega)⟩

theorem momNew {w w2 : World} {k e : Value} {vo : Option Addr} {vn vc : Nat} {vs : List Int} {arg : Int} (_ : Below w.heap.size w w2) (hv : SliceOf w2 vo vn vs) :
    MomAt (w2.alloc (.cells #[k, .slice vo vn vc, .int .i64 arg, e] 72)) w2.heap.size vs arg := by
  obtain ⟨c0, c1, c2, c3⟩ := quad_cells (heap_alloc_new w2 (.cells #[k, .slice vo vn vc, .int .i64 arg, e] 72))
  exact ⟨by simp, c2, vo, vn, vc, c1, hv.below (below1 _ _)⟩

set_option maxHeartbeats 2000000 in
theorem implEval_any (ao : Option Addr) (n c : Nat) (its : List (Int × Int)) (ko vo : Option Addr) (kn kc vn vc : Nat) (ks vs : List Int) (arg : Int) (w : World) (hn : n ≤ 9223372036854775807) (hkn : kn ≤ 9223372036854775807) (hvn : vn ≤ 9223372036854775807)
    (hs : ItemsOf w ao n its) (hk : SliceOf w ko kn ks) (hv : SliceOf w vo vn vs) :
    Calls Try.prog 11 #[.slice ao n c, .agg #[.slice ko kn kc, .slice vo vn vc], .int .i64 arg] w fun e w' => e = .returned (.int .i64 (evI its ks vs arg)) ∧ Below w.heap.size w w' := by
  have hmf : ∀ (fn : Fn) (first cap : Array Value) (w : World), (Instr.makeFunc fn first cap).run Try.prog w = .ok (.func fn first cap) w := fun _ _ _ _ => rfl
  have HS : Hid (∀ w', Below w.heap.size w w' → ItemsOf w' ao n its ∧ SliceOf w' ko kn ks ∧ SliceOf w' vo vn vs) := fun w' h => ⟨hs.below h, hk.below h, hv.below h⟩
  have EV : Hid (vs.length = vn) := hv.1
  obtain ⟨bb, hbb⟩ : ∃ b, b = bankB ks vs := ⟨_, rfl⟩
  have CB : Hid (∀ w', Below w.heap.size w w' → Calls Try.prog 26 #[.agg #[.slice ko kn kc, .slice vo vn vc]] w' fun e w'' => e = .returned (.bool bb) ∧ Below w'.heap.size w' w'') := fun w' h => by rw [hbb]; exact implBankOK_any ko vo kn vn kc vc ks vs w' hkn hvn (hk.below h) (hv.below h)
  have Q0 := hid (block_below (heap_alloc_new w (.cells #[.slice ao n c] 33)) (below1 _ (.cells #[.slice ko kn kc, .slice vo vn vc] 26)))
  have Q1 := hid (heap_alloc_new (w.alloc (.cells #[.slice ao n c] 33)) (.cells #[.slice ko kn kc, .slice vo vn vc] 26))
  simp only [World.size_alloc] at Q1
  clear hs hk hv
  cases bb with
  | false =>
    have E : Hid (evI its ks vs arg = 0) := hid (by simp [evI, ← hbb])
    rw [E.out]
    clear hbb
    go_enter Try.func11, Try.ntmps11
    go_wp2_with (go_at_call 26; refine (CB.out _ (below2 _ _ _)).mono ?_; rintro e w1 ⟨rfl, hb⟩; have HB := hid hb; clear hb)
    go_ret
    exact ⟨rfl, (below2 _ _ _).trans (HB.out.mono (by simp; omega))⟩
  | true =>
    cases hl : liftT its vs.length with
    | none =>
      have E : Hid (evI its ks vs arg = 0) := hid (by simp [evI, ← hbb, hl])
      have HL : Hid (liftT its vn = none) := hid (by have := EV.out; rw [← this]; exact hl)
      rw [E.out]
      have hq := err_neq
      clear hbb hl
      go_enter Try.func11, Try.ntmps11
      go_wp2_with (go_at_call 26; refine (CB.out _ (below2 _ _ _)).mono ?_; rintro e w1 ⟨rfl, hb⟩; have HB := hid hb; clear hb)
      have B1 := (below2 w (.cells #[.slice ao n c] 33) (.cells #[.slice ko kn kc, .slice vo vn vc] 26)).trans (HB.out.mono (by simp; omega))
      have B3 := (B1.alloc B1.size (.cells #[.nilIface] 74)).alloc (by have := B1.size; simp; omega) (.cells #[.nilIface] 64)
      have A := hid (attempt_no 35 #[.pointer (some ⟨w.heap.size, 0, none⟩), .pointer (some ⟨w.heap.size + 1, 0, none⟩), .pointer (some ⟨w1.heap.size, 0, none⟩)] (w1.alloc (.cells #[.nilIface] 74)) ents33
        (by simpa using evalLit_no ao n c its _ vo vn vc w1.heap.size w.heap.size (w.heap.size + 1) ((w1.alloc (.cells #[.nilIface] 74)).alloc (.cells #[.nilIface] 64)) hn (HS.out _ B3).1 (block_below (block_below (block_below Q0.out HB.out) (below1 _ _)) (below1 _ _)) (block_below (block_below (block_below Q1.out HB.out) (below1 _ _)) (below1 _ _)) HL.out))
      have HB1 := hid B1
      clear B1 B3
      go_wp2_with (go_at_call 29; refine A.out.mono ?_; rintro e w2 ⟨⟨s, rfl⟩, hb2⟩; have HB2 := hid hb2; clear hb2)
      go_ret
      exact ⟨rfl, (HB1.out.alloc HB1.out.size _).trans (HB2.out.mono (by have := HB1.out.size; simp; omega))⟩
    | some t =>
      have E : Hid (evI its ks vs arg = evalT vs arg t) := hid (by simp [evI, ← hbb, hl])
      have HL : Hid (liftT its vn = some t) := hid (by have := EV.out; rw [← this]; exact hl)
      have WF := hid (liftT_wf hl)
      rw [E.out]
      have hq := nil_neq
      clear hbb hl
      go_enter Try.func11, Try.ntmps11
      go_wp2_with (go_at_call 26; refine (CB.out _ (below2 _ _ _)).mono ?_; rintro e w1 ⟨rfl, hb⟩; have HB := hid hb; clear hb)
      have B1 := (below2 w (.cells #[.slice ao n c] 33) (.cells #[.slice ko kn kc, .slice vo vn vc] 26)).trans (HB.out.mono (by simp; omega))
      have B3 := (B1.alloc B1.size (.cells #[.nilIface] 74)).alloc (by have := B1.size; simp; omega) (.cells #[.nilIface] 64)
      have s1 := HB.out.size
      simp at s1
      obtain ⟨V, hV⟩ : ∃ V, V = (w1.alloc (.cells #[.nilIface] 74)).alloc (.cells #[.nilIface] 64) := ⟨_, rfl⟩
      have sV : V.heap.size = w1.heap.size + 1 + 1 := by rw [hV]; simp
      have v0 : V.heap[w.heap.size]? = some (.cells #[.slice ao n c] 33 (0, 0)) := by rw [hV]; exact block_below (block_below (block_below Q0.out HB.out) (below1 _ _)) (below1 _ _)
      have v1 : V.heap[w.heap.size + 1]? = some (.cells #[.slice ko kn kc, .slice vo vn vc] 26 (0, 0)) := by rw [hV]; exact block_below (block_below (block_below Q1.out HB.out) (below1 _ _)) (below1 _ _)
      have v2 : V.heap[w1.heap.size]? = some (.cells #[.nilIface] 74 (0, 0)) := by rw [hV]; exact block_below (heap_alloc_new w1 _) (below1 _ _)
      have v3 : V.heap[w1.heap.size + 1]? = some (.cells #[.nilIface] 64 (0, 0)) := by rw [hV]; simpa using heap_alloc_new (w1.alloc (.cells #[.nilIface] 74)) (.cells #[.nilIface] 64)
      have A := hid (attempt_gen 35 #[.pointer (some ⟨w.heap.size, 0, none⟩), .pointer (some ⟨w.heap.size + 1, 0, none⟩), .pointer (some ⟨w1.heap.size, 0, none⟩)] (w1.alloc (.cells #[.nilIface] 74))
        (fun w' => w'.heap[w1.heap.size]? = some (.cells #[tv t] 74 (0, 0)) ∧ Away w1.heap.size V w') ents33
        (fun w' h => by simp only [World.size_alloc]; exact (h.2.block _ (by omega) (by omega)).trans v3)
        (by rw [← hV]; exact evalLit_yes ao n c its _ vo vn vc t w1.heap.size w.heap.size (w.heap.size + 1) V hn (HS.out _ (by rw [hV]; exact B3)).1 v0 v1 v2 HL.out))
      have HB1 := hid B1
      have V1 := hid v1
      have BV : Hid (Below w.heap.size w V) := hid (by rw [hV]; exact B3)
      obtain ⟨y, x, hy⟩ := tv_form t
      have hx := pl_of hy
      have CM := hid (fun mp w => cm_any _ t WF.out mp w)
      have VA := hid (fun mb => value_any mb vs arg t WF.out)
      rw [hy] at A CM
      rw [← hx] at CM VA
      clear B1 B3 v0 v1 v2 v3 hV hy hx
      go_wp2_with (first | (go_at_call 29; refine A.out.mono ?_; rintro e w2 ⟨rfl, w3, ⟨hw3, ha3⟩, hw2⟩; have b2 : w2.heap[w1.heap.size]? = some (.cells #[.iface y x] 74 (0, 0)) := (by rw [hw2]; exact (Below.heap_setCell _ _ _ _ (by simp)).trans hw3); have c2 := cell_of_one b2; have b3 : w2.heap[w.heap.size + 1]? = some (.cells #[.slice ko kn kc, .slice vo vn vc] 26 (0, 0)) := (by rw [hw2]; exact (Below.heap_setCell _ _ _ _ (by simp; omega)).trans ((ha3.block _ (by omega) (by omega)).trans V1.out)); have c3 := (pair_cells b3).2.1; have B2 : Hid (Below w.heap.size w w2) := hid (by rw [hw2]; exact (BV.out.trans (ha3.belowAt (by omega) (by omega))).setCell (by simp; omega) _); clear hw3 ha3 hw2 b2 b3) | (refine wpList_invoke _ (by rfl) (.tmp 14) (.tmp 19) vname _ (by rfl) (by rfl) (by rfl) (CM.out _ _) ?_; refine (VA.out _ _ (momNew B2.out (HS.out _ B2.out).2.2)).mono ?_; rintro e w5 ⟨rfl, hb5⟩; have B5 := hid hb5; clear hb5; refine ⟨_, rfl, ?_⟩))
      go_ret
      exact ⟨rfl, (B2.out.alloc B2.out.size _).trans (B5.out.mono (by have := B2.out.size; simp; omega))⟩
end Go.Proofs.Ytdpejnacganadaa

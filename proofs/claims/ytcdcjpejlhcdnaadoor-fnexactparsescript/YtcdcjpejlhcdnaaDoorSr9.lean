import Derived.Test.YtcdcjpejlhcdnaaDoorSr8
namespace Go.Proofs.YtcdcjpejlhcdnaaDoor
open Go.RowKit Go.Sort
set_option linter.unusedVariables false
attribute [local go_sem ↓] Go.wp_at_zero Go.wp_at_succ

/-- What a line's reading ends in. -/
def ErrV (bad : Bool) (ev : Value) : Prop := (bad = false ∧ ev = .nilIface) ∨ (bad = true ∧ ∃ te pe, ev = .iface te pe)
theorem FAt.drew {w : World} {F : Nat} {fs : List (List UInt8)} {bad : Bool} (h : FAt w F fs bad) : FAt w.drew F fs bad := h.below ((Below.refl _ _).drew)

set_option maxRecDepth 100000 in
set_option maxHeartbeats 800000 in
theorem end_any (F : Nat) (fs : List (List UInt8)) (bad : Bool) (w : World) (hv : Vars w) (hF : 12 < F) (h : FAt w F fs bad) :
    Calls Tryd.prog 36 #[.pointer (some ⟨F, 0, none⟩)] w fun e w' => (∃ ev, e = .returned ev ∧ ErrV (bad || !fs.isEmpty) ev) ∧ Tn (· = F) w w' := by
  have H := hid h
  obtain ⟨te, pe, hf⟩ := hv.many
  obtain ⟨ao, n, c, ev, h1, h2, h3, h4, h5⟩ := h
  obtain ⟨c0, c1, f0, f1⟩ := two_cc h1
  have hfl := lt_of_block h1
  have hgl := Lib.lt_of_cell hf
  have hgF : ¬ 5 = F := by omega
  have hn := h2.1
  obtain ⟨b, hb⟩ : ∃ b : Bool, b = fs.isEmpty := ⟨_, rfl⟩
  have hnb : Hid (((n : Int) == 0) = b) := hid (by
    rw [hb]
    cases fs with
    | nil => simp at hn; subst hn; rfl
    | cons x r => simp at hn; subst hn; simp; omega)
  rw [← hb]
  clear h1 h2 hv hb hn
  cases b with
  | true =>
    have hn0 : n = 0 := by have := hnb.out; simpa using this
    subst hn0
    clear hnb
    go_enter Tryd.func36, Tryd.ntmps36
    go_wp2
    go_region_with (go_at_call 40; with_reducible refine (need_any F fs bad true te pe _ H.out.drew).mono ?_; rintro e w3 ⟨rfl, h3, t3⟩; have H3 := hid h3; have T3 := hid t3; clear h3 t3)
    all_goals
      obtain ⟨ao', n', c', ev', k1, k2, k3, k4, k5⟩ := H3.out
      obtain ⟨d0, d1, g0, g1⟩ := two_cc k1
      have K5 : Hid (ErrV (bad || !true) ev') := hid k5
      clear k1 k2 k5
      go_wp2
      go_ret
      exact ⟨⟨_, rfl, K5.out⟩, (Tn.of_below ((Below.refl _ _).drew)).trans T3.out⟩
  | false =>
    have hn0 : ((n : Int) == 0) = false := hnb.out
    clear hnb
    go_enter Tryd.func36, Tryd.ntmps36
    go_wp2
    go_region_with (go_at_call 40; with_reducible refine (need_any F fs bad false te pe _ H.out.drew).mono ?_; rintro e w3 ⟨rfl, h3, t3⟩; have H3 := hid h3; have T3 := hid t3; clear h3 t3)
    all_goals
      obtain ⟨ao', n', c', ev', k1, k2, k3, k4, k5⟩ := H3.out
      obtain ⟨d0, d1, g0, g1⟩ := two_cc k1
      have K5 : Hid (ErrV (bad || !false) ev') := hid k5
      clear k1 k2 k5
      go_wp2
      go_ret
      exact ⟨⟨_, rfl, K5.out⟩, (Tn.of_below ((Below.refl _ _).drew)).trans T3.out⟩

/-- What reading numbers into places makes of a block, of the fields, of the fault. -/
def putAll : Array Value → List Nat → List (List UInt8) → Array Value
  | cs, [], _ => cs
  | cs, o :: os, fs => putAll (cs.setIfInBounds o (.int .i64 (rdN fs))) os fs.tail
def badAll : Bool → List Nat → List (List UInt8) → Bool
  | b, [], _ => b
  | b, _ :: os, fs => badAll (b || !okN fs) os fs.tail
def restAll : List Nat → List (List UInt8) → List (List UInt8)
  | [], fs => fs
  | _ :: os, fs => restAll os fs.tail
theorem drop_cons_nat {os : List Nat} {k : Nat} (h : k < os.length) : os.drop k = os.getD k 0 :: os.drop (k + 1) := by
  rw [List.drop_eq_getElem_cons h]
  simp [List.getD_eq_getElem?_getD, h]

set_option maxRecDepth 100000 in
set_option maxHeartbeats 1600000 in
theorem numbers_any (F P I : Nat) (os : List Nat) (cap : Nat) (cs : Array Value) (t : TypeId) (fs : List (List UInt8)) (bad : Bool) (w : World) (hv : Vars w) (hF : 12 < F) (hI : 12 < I) (hFI : F ≠ I) (hPI : P ≠ I) (hPF : P ≠ F) (hP : P < w.heap.size) (hos : os.length ≤ 100) (hl : ∀ f ∈ fs, f.length ≤ 1048576) (h : FAt w F fs bad)
    (hc : w.heap[I]? = some (.cells cs t (0, 0))) (hn : t ≠ 9) (hb : ∀ j, j < os.length → os.getD j 0 < cs.size) (hp : ∀ j, j < os.length → w.cell? ⟨P, j, none⟩ = some (.pointer (some ⟨I, os.getD j 0, none⟩))) :
    Calls Tryd.prog 37 #[.pointer (some ⟨F, 0, none⟩), .slice (some ⟨P, 0, none⟩) os.length cap] w fun e w' => e = .returned (.tuple #[]) ∧ FAt w' F (restAll os fs) (badAll bad os fs) ∧ w'.heap[I]? = some (.cells (putAll cs os fs) t (0, 0)) ∧ Tn (fun b => b = F ∨ b = I) w w' := by
  have HV := hid hv
  have HB := hid hb
  have HP := hid hp
  have H0 := hid h
  have HC := hid hc
  have HN := hid hn
  have HL := hid hl
  clear hv hb hp h hc hn hl
  obtain ⟨N, hN⟩ : ∃ N, N = os.length := ⟨_, rfl⟩
  have hN2 : N ≤ 100 := by omega
  rw [← hN]
  have HNE := hid hN
  clear hN hos
  go_enter Tryd.func37, Tryd.ntmps37
  go_wp2
  go_loopw [8] (fun i wr => ∃ (k : Nat) (cs' : Array Value) (fs' : List (List UInt8)) (bad' : Bool), k ≤ N ∧ i = .int .i64 k ∧ Hid (putAll cs os fs = putAll cs' (os.drop k) fs' ∧ badAll bad os fs = badAll bad' (os.drop k) fs' ∧ restAll os fs = restAll (os.drop k) fs') ∧ Hid (∀ f ∈ fs', f.length ≤ 1048576) ∧ Hid (FAt wr F fs' bad') ∧ Hid (wr.heap[I]? = some (.cells cs' t (0, 0)) ∧ True ∧ cs'.size = cs.size) ∧ Hid (Tn (fun b => b = F ∨ b = I) w wr)) (fun i _ => N - (intOf i).toNat)
  case atStart => exact ⟨0, cs, fs, bad, Nat.zero_le _, rfl, hid (by simp), HL, H0, hid ⟨HC.out, trivial, rfl⟩, hid (Tn.refl _ _)⟩
  case round =>
    obtain ⟨k, cs', fs', bad', hk, rfl, hE, hL, hA, hC, hT⟩ := hrel
    by_cases hlt : k < N
    · have hlt' : (k : Int) < (N : Int) := by omega
      have hko : k < os.length := by rw [← HNE.out]; exact hlt
      have p0 := HP.out k hko
      have hPr : P < wr.heap.size := Nat.lt_of_lt_of_le hP hT.out.size
      have pr : wr.cell? ⟨P, k, none⟩ = some (.pointer (some ⟨I, os.getD k 0, none⟩)) := (cell_same (hT.out.block P hP (fun e => by rcases e with e | e; exact hPF e; exact hPI e)) k).trans p0
      have VR := hid (HV.out.tn hT.out (fun g hg e => by rcases e with e | e <;> omega))
      have C := hid (number_any F fs' bad' wr VR.out hF hL.out hA.out)
      have hob := HB.out k hko
      have E2 := hid (drop_cons_nat hko)
      obtain ⟨o, ho⟩ : ∃ o, o = os.getD k 0 := ⟨_, rfl⟩
      rw [← ho] at pr hob E2
      obtain ⟨z, hz⟩ : ∃ z, z = rdN fs' := ⟨_, rfl⟩
      have HZ := hid hz
      rw [← hz] at C
      clear hz
      have L2 : Hid (∀ f ∈ fs'.tail, f.length ≤ 1048576) := hid (fun f hf => hL.out f (List.mem_of_mem_tail hf))
      obtain ⟨old, hold⟩ : ∃ old, cs'[o]? = some old := ⟨_, Array.getElem?_eq_getElem (by rw [hC.out.2.2]; exact hob)⟩
      have HO := hid hold
      clear ho p0 hold
      go_wp2_with (go_at_call 39; with_reducible refine C.out.mono ?_)
      rintro e w1 ⟨rfl, h1, t1⟩
      have H1 := hid h1
      have T1 := hid t1
      have I1 := hid (t1.at hC.out.1 (fun e => hFI e.symm))
      have ic3 : w1.cell? ⟨I, o, none⟩ = some old := (Lib.cell_of_heap I1.out o).trans HO.out
      have ifz : w1.frozen? ⟨I, o, none⟩ = false := Lib.frozen_of_heap I1.out o
      clear h1 t1
      go_wp2
      go_roundw
      case rel =>
        refine ⟨k + 1, cs'.setIfInBounds o (.int .i64 z), fs'.tail, bad' || !okN fs', hlt, by go_num, hid ?_, L2, hid ?_, hid ⟨heap_setCell_same w1 I o _ _ _ I1.out, trivial, by rw [Array.size_setIfInBounds]; exact hC.out.2.2⟩, hid ?_⟩
        · have e := hE.out
          rw [E2.out] at e
          rw [HZ.out]
          exact e
        · exact H1.out.tn (S := (· = I)) (Tn.one _) hFI (tag_ne I1.out HN.out)
        · exact (hT.out.trans (T1.out.mono (fun i _ h => .inl h))).trans ((Tn.one _).mono (fun i _ h => .inr h))
      case measure => simp [intOf]; omega
    · have ek : k = N := by omega
      subst ek
      have e := hE.out
      rw [List.drop_of_length_le (by rw [HNE.out]; exact Nat.le_refl _)] at e
      have E3 := hid e
      clear e
      go_wp2
      go_end0
      exact ⟨rfl, by rw [E3.out.2.1, E3.out.2.2]; exact hA.out, by rw [E3.out.1]; exact hC.out.1, hT.out⟩
end Go.Proofs.YtcdcjpejlhcdnaaDoor

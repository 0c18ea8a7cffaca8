import Derived.Test.YtcdcjpejlhcdnaaDoorSr7
namespace Go.Proofs.YtcdcjpejlhcdnaaDoor
open Go.RowKit Go.Sort
set_option linter.unusedVariables false
attribute [local go_sem ↓] Go.wp_at_zero Go.wp_at_succ

theorem below_grow (w : World) (k : Nat) (os : Array Obj) : Below w.heap.size w (Sort.grow (w.drewN k) os) := by
  have h1 : Below w.heap.size w (w.drewN k) := belowDraws (Below.refl _ _) k
  have h2 : Below w.heap.size (w.drewN k) (Sort.grow (w.drewN k) os) := ⟨rfl, rfl, rfl, by simp [Sort.grow], fun i hi => by
    simp [Sort.grow, Array.getElem?_append]; intro h3; omega⟩
  exact h1.trans h2
theorem itoa_any (z : Int) (h0 : -9223372036854775808 ≤ z) (h1 : z ≤ 9223372036854775807) (w : World) (ht : Pow w) : Calls Tryd.prog 50 #[.int .i64 z] w fun e w' => e = .returned (.string ⟨(Lib.itoa z).toArray⟩) ∧ Below w.heap.size w w' := by
  refine (Tryd.strconv_Itoa z h0 h1 w ht).mono ?_
  rintro e w' ⟨rfl, k, os, rfl⟩
  exact ⟨rfl, below_grow w k os⟩
/-- What Atoi answers: the number, or an error. -/
theorem atoi_any (s : ByteArray) (hs : s.size ≤ 1048576) (w : World) (hv : Vars w) : Calls Tryd.prog 49 #[.string s] w fun e w' => ((∃ v, Lib.atoiAll (bl s) = .ok v ∧ e = .returned (.tuple #[.int .i64 v, .nilIface])) ∨ ((∀ v, Lib.atoiAll (bl s) ≠ .ok v) ∧ ∃ z te pe, e = .returned (.tuple #[.int .i64 z, .iface te pe]))) ∧ Below w.heap.size w w' := by
  match h : Lib.atoiAll (bl s) with
  | .ok v =>
    refine (Tryd.strconv_Atoi_ok s (by omega) v h w).mono ?_
    rintro e w' ⟨rfl, hw⟩
    refine ⟨.inl ⟨v, rfl, rfl⟩, ?_⟩
    rcases hw with rfl | ⟨t, rfl⟩
    · exact Below.refl _ _
    · exact Lib.bytesWorld_below _ _ _
  | Lib.NumEnd.syntax =>
    obtain ⟨te, pe, hc⟩ := hv.syn
    refine (Tryd.strconv_Atoi_syntax s (by omega) h _ w hc (.inr ⟨_, _, rfl⟩)).mono ?_
    rintro e w' ⟨N, rfl, _, _, hb⟩
    exact ⟨.inr ⟨fun v hv => by (cases hv), _, _, _, rfl⟩, hb⟩
  | Lib.NumEnd.range =>
    obtain ⟨te, pe, hc⟩ := hv.rng
    refine (Tryd.strconv_Atoi_range s (by omega) h _ w hc (.inr ⟨_, _, rfl⟩)).mono ?_
    rintro e w' ⟨N, rfl, _, _, hb⟩
    exact ⟨.inr ⟨fun v hv => by (cases hv), _, _, _, rfl⟩, hb⟩

set_option maxRecDepth 100000 in
set_option maxHeartbeats 800000 in
/-- The number that a field is (the program's). -/
theorem numberOf_any (s : ByteArray) (hs : s.size ≤ 1048576) (w : World) (hv : Vars w) (hB : 12 < w.heap.size) :
    Calls Tryd.prog 45 #[.string s] w fun e w' => e = .returned (.tuple #[.int .i64 ((num? (bl s)).getD 0), .bool (num? (bl s)).isSome]) ∧ Below w.heap.size w w' := by
  have C := hid (atoi_any s hs w hv)
  have HV := hid hv
  clear hv
  by_cases h : ∃ v, Lib.atoiAll (bl s) = .ok v
  · obtain ⟨v, h⟩ := h
    have vb := Lib.atoiAll_bounds h
    have C1 : Hid (Calls Tryd.prog 49 #[.string s] w fun e w' => e = .returned (.tuple #[.int .i64 v, .nilIface]) ∧ Below w.heap.size w w') := hid (C.out.mono (by
      rintro e w' ⟨h1 | ⟨h1, _⟩, h2⟩
      · obtain ⟨v', h3, rfl⟩ := h1
        rw [h] at h3
        injection h3 with h3
        subst h3
        exact ⟨rfl, h2⟩
      · exact absurd h (h1 v)))
    have C2 := hid (fun W (hW : Below w.heap.size w W) => itoa_any v vb.1 vb.2 W (HV.out.below hW hB (Nat.le_refl _)).pow)
    obtain ⟨t, ht⟩ : ∃ t : ByteArray, t = ⟨(Lib.itoa v).toArray⟩ := ⟨_, rfl⟩
    rw [← ht] at C2
    have TE : Hid ((Lib.itoa v = bl s) ↔ t = s) := hid (by rw [ht]; exact ba_bl.symm)
    have NM : Hid (num? (bl s) = if Lib.itoa v = bl s then some v else none) := hid (by unfold num?; rw [h])
    clear C ht h vb
    by_cases hts : t = s
    · have Y : Hid (num? (bl s) = some v) := hid (by rw [NM.out, if_pos (TE.out.2 hts)])
      rw [Y.out]
      subst hts
      go_enter Tryd.func45, Tryd.ntmps45
      go_wp2_with (first
        | (go_at_call 49; with_reducible refine C1.out.mono ?_; rintro e w1 ⟨rfl, hb1⟩; have B1 := hid hb1; clear hb1)
        | (go_at_call 50; with_reducible refine (C2.out _ B1.out).mono ?_; rintro e w2 ⟨rfl, hb2⟩; have B2 := hid hb2; clear hb2))
      go_ret2
      exact ⟨rfl, B1.out.trans (B2.out.mono B1.out.size)⟩
    · have Y : Hid (num? (bl s) = none) := hid (by rw [NM.out, if_neg (fun e => hts (TE.out.1 e))])
      rw [Y.out]
      have hts' := str_ne hts
      have hts2 : ¬ t.toList = s.toList := by simpa using hts'
      clear hts
      go_enter Tryd.func45, Tryd.ntmps45
      go_wp2_with (first
        | (go_at_call 49; with_reducible refine C1.out.mono ?_; rintro e w1 ⟨rfl, hb1⟩; have B1 := hid hb1; clear hb1)
        | (go_at_call 50; with_reducible refine (C2.out _ B1.out).mono ?_; rintro e w2 ⟨rfl, hb2⟩; have B2 := hid hb2; clear hb2))
      go_ret2
      exact ⟨rfl, B1.out.trans (B2.out.mono B1.out.size)⟩
  · have Y : Hid (num? (bl s) = none) := hid (by
      unfold num?
      split
      · rename_i v hv; exact absurd ⟨v, hv⟩ h
      · rfl)
    rw [Y.out]
    have C1 : Hid (Calls Tryd.prog 49 #[.string s] w fun e w' => (∃ z te pe, e = .returned (.tuple #[.int .i64 z, .iface te pe])) ∧ Below w.heap.size w w') := hid (C.out.mono (by
      rintro e w' ⟨⟨v, h1, _⟩ | ⟨_, h1⟩, h2⟩
      · exact absurd ⟨v, h1⟩ h
      · exact ⟨h1, h2⟩))
    clear C h
    go_enter Tryd.func45, Tryd.ntmps45
    go_wp2_with (go_at_call 49; with_reducible refine C1.out.mono ?_; rintro e w1 ⟨⟨z, te, pe, rfl⟩, hb1⟩; have B1 := hid hb1; clear hb1)
    go_ret2
    exact ⟨rfl, B1.out⟩

/-- What the next field gives as a number. -/
def rdN (fs : List (List UInt8)) : Int := (num? (fs.getD 0 [])).getD 0
def okN (fs : List (List UInt8)) : Bool := (num? (fs.getD 0 [])).isSome
theorem num_nil : num? [] = none := by
  cases h : num? [] with
  | none => rfl
  | some v => have := num_len h; simp at this
theorem okN_nil (fs : List (List UInt8)) (h : fs.isEmpty = true) : okN fs = false := by
  cases fs with
  | nil => unfold okN; simp [num_nil]
  | cons x r => cases h

set_option maxRecDepth 100000 in
set_option maxHeartbeats 800000 in
theorem number_any (F : Nat) (fs : List (List UInt8)) (bad : Bool) (w : World) (hv : Vars w) (hF : 12 < F) (hl : ∀ f ∈ fs, f.length ≤ 1048576) (h : FAt w F fs bad) :
    Calls Tryd.prog 39 #[.pointer (some ⟨F, 0, none⟩)] w fun e w' => e = .returned (.int .i64 (rdN fs)) ∧ FAt w' F fs.tail (bad || !okN fs) ∧ Tn (· = F) w w' := by
  have HF := hid h.lt
  have C := hid (next_any F fs bad w hv h)
  have HV := hid hv
  obtain ⟨s, hs⟩ : ∃ s : ByteArray, s = ⟨(fs.getD 0 []).toArray⟩ := ⟨_, rfl⟩
  rw [← hs] at C
  have hbs : fs.getD 0 [] = bl s := ba_bl.1 hs.symm
  have hsz : s.size ≤ 1048576 := by
    rw [← bl_len, ← hbs]
    cases fs with
    | nil => simp
    | cons x r => simpa using hl x (by simp)
  have C2 := hid (fun W (hW : Vars W) (hz : 12 < W.heap.size) => numberOf_any s hsz W hW hz)
  rw [← hbs] at C2
  have OE := hid (okN_nil fs)
  have C2' : Hid (∀ W, Vars W → 12 < W.heap.size → Calls Tryd.prog 45 #[.string s] W fun e w' => e = .returned (.tuple #[.int .i64 (rdN fs), .bool (okN fs)]) ∧ Below W.heap.size W w') := hid C2.out
  obtain ⟨z, hz⟩ : ∃ z, z = rdN fs := ⟨_, rfl⟩
  obtain ⟨ok, hok⟩ : ∃ z, z = okN fs := ⟨_, rfl⟩
  rw [← hz] at C2' ⊢
  rw [← hok] at C2' OE ⊢
  have far : Hid (∀ g, g ≤ 12 → ¬ g = F) := hid (fun g hg => by omega)
  obtain ⟨te, pe, hf⟩ := hv.field
  have HFE := hid hf
  clear h hv hs hbs hsz C2 hz hok hf
  go_enter Tryd.func39, Tryd.ntmps39
  go_wp2_with (first
    | (go_at_call 46; with_reducible refine C.out.mono ?_; rintro e w1 ⟨rfl, h1, t1⟩; have H1 := hid h1; have T1 := hid t1; have V1 := hid (HV.out.tn t1 far.out); have Z1 := hid (show 12 < w1.heap.size by have := t1.size; have := HF.out; omega); clear h1 t1)
    | (go_at_call 45; with_reducible refine (C2'.out _ V1.out Z1.out).mono ?_; rintro e w2 ⟨rfl, hb2⟩; have B2 := hid hb2; have H2 := hid (H1.out.below hb2); have hfe2 : w2.cell? ⟨4, 0, none⟩ = some (.iface te pe) := (hb2.cell (p := ⟨4, 0, none⟩) (show 4 < _ by have := Z1.out; omega)).trans ((cell_same (T1.out.block 4 (Lib.lt_of_cell HFE.out) (far.out _ (by decide))) 0).trans HFE.out); clear hb2)
    | (go_at_call 40; with_reducible refine (need_any F fs.tail _ ok te pe _ H2.out).mono ?_; rintro e w3 ⟨rfl, h3, t3⟩; have H3 := hid h3; have T3 := hid t3; clear h3 t3))
  go_ret
  refine ⟨rfl, ?_, (T1.out.trans (Tn.of_below B2.out)).trans T3.out⟩
  have e : (bad || !ok) = ((bad || fs.isEmpty) || !ok) := by
    cases hx : fs.isEmpty with
    | false => simp
    | true => rw [OE.out hx]; simp
  rw [e]
  exact H3.out
end Go.Proofs.YtcdcjpejlhcdnaaDoor

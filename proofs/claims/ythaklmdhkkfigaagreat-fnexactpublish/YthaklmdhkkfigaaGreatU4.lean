import Derived.Test.YthaklmdhkkfigaaGreatTj
import Derived.Test.YthaklmdhkkfigaaGreatU3
namespace Go.Proofs.YthaklmdhkkfigaaGreat
open Go.RowKit Go.Sort
set_option linter.unusedVariables false
attribute [local go_sem ↓] Go.wp_at_zero Go.wp_at_succ

def leafB (ss : List StD) (l : Int) : Bool := betB l 0 ((ss.length : Int) - 1) && decide (kids ss ss.length l.toNat = [])
abbrev evP (es : List (Int × Int)) (sg : Int) : Prop := ∀ i, i < es.length → 0 ≤ (es.getD i (0, 0)).1 ∧ (es.getD i (0, 0)).1 < sg
def evB (es : List (Int × Int)) (most sg : Int) : Bool := decide (evP es sg ∧ (es.length : Int) ≤ most)
def obK (sg : Int) (x : ObD) (l : Int) (vs : List Int) (qs ds : List (Int × Int)) : Bool := leafB x.sts l && (bankB x.kinds vs && (evB qs x.qcap sg && evB ds x.dcap sg))
def tmK (l e : Int) : Bool := decide (0 ≤ l ∧ (0 ≤ e ∧ e ≤ 999999999) ∧ ¬ (l = 0 ∧ ¬ e = 0))
abbrev lenP (os : List ObD) (ts : List (Int × Int)) (k : KerD) : Prop :=
  (k.leaf.length = os.length ∧ k.vals.length = os.length ∧ k.qs.length = os.length ∧ k.ds.length = os.length) ∧ k.left.length = ts.length ∧ k.every.length = ts.length
def obKi (sg : Int) (os : List ObD) (k : KerD) (i : Nat) : Bool := obK sg (os.getD i ob0) (k.leaf.getD i 0) (k.vals.getD i []) (k.qs.getD i []) (k.ds.getD i [])
def tmKi (k : KerD) (t : Nat) : Bool := tmK (k.left.getD t 0) (k.every.getD t 0)
/-- Is it a kernel of the system? -/
def kerB (sg : Int) (os : List ObD) (ts : List (Int × Int)) (k : KerD) : Bool :=
  decide ((sysFault sg os ts).1 = 0 ∧ lenP os ts k ∧ (∀ i, i < os.length → obKi sg os k i = true) ∧ ∀ t, t < ts.length → tmKi k t = true)
theorem ker_sys {sg : Int} {os : List ObD} {ts : List (Int × Int)} {k : KerD} (h : ¬ (sysFault sg os ts).1 = 0) : kerB sg os ts k = false := by
  unfold kerB; rw [decide_eq_false_iff_not]; exact fun h' => h h'.1
theorem ker_len {sg : Int} {os : List ObD} {ts : List (Int × Int)} {k : KerD} (h : ¬ lenP os ts k) : kerB sg os ts k = false := by
  unfold kerB; rw [decide_eq_false_iff_not]; exact fun h' => h h'.2.1
theorem ker_ob {sg : Int} {os : List ObD} {ts : List (Int × Int)} {k : KerD} {i : Nat} (hi : i < os.length) (h : obKi sg os k i = false) : kerB sg os ts k = false := by
  unfold kerB; rw [decide_eq_false_iff_not]; exact fun h' => by have := h'.2.2.1 i hi; rw [h] at this; cases this
theorem ker_tm {sg : Int} {os : List ObD} {ts : List (Int × Int)} {k : KerD} {t : Nat} (hi : t < ts.length) (h : tmKi k t = false) : kerB sg os ts k = false := by
  unfold kerB; rw [decide_eq_false_iff_not]; exact fun h' => by have := h'.2.2.2 t hi; rw [h] at this; cases this
theorem ker_yes {sg : Int} {os : List ObD} {ts : List (Int × Int)} {k : KerD} (h1 : (sysFault sg os ts).1 = 0) (h2 : lenP os ts k) (h3 : ∀ i, i < os.length → obKi sg os k i = true) (h4 : ∀ t, t < ts.length → tmKi k t = true) : kerB sg os ts k = true := by
  unfold kerB; rw [decide_eq_true_iff]; exact ⟨h1, h2, h3, h4⟩
theorem firstB_is {P : Nat → Bool} {n k : Nat} (h : firstB P n = some k) : P k = true := List.find?_some h
theorem sys_cnt {sg : Int} {os : List ObD} {ts : List (Int × Int)} (h : (sysFault sg os ts).1 = 0) : cntP sg os.length ts.length := by
  by_cases c : cntP sg os.length ts.length
  · exact c
  · rw [sys_count c] at h; cases h
theorem sys_objs {sg : Int} {os : List ObD} {ts : List (Int × Int)} (h : (sysFault sg os ts).1 = 0) {j : Nat} (hj : j < os.length) : (objFault sg os ts.length j).1 = 0 := by
  have c := sys_cnt h
  unfold sysFault at h
  rw [if_pos c] at h
  cases e : firstB (badOb sg os ts.length) os.length with
  | some k =>
    rw [e] at h
    have hk := firstB_is e
    unfold badOb at hk
    simp only [decide_eq_true_eq] at hk
    exact absurd h hk
  | none =>
    have := firstB_none_iff e j hj
    unfold badOb at this
    simpa using this
theorem chart_good {ss : List StD} {ts : List TrD} {l : LimD} (h : (checkOf ss ts l).1 = 0) : GoodT ss ts.length := by
  by_cases c : (faultOf ss ts.length (limB l)).1 = 0
  · exact good_of c
  · rw [check_fault c] at h; exact absurd h c
theorem obj_good {sg : Int} {os : List ObD} {nt i : Nat} (h : (objFault sg os nt i).1 = 0) : GoodT (os.getD i ob0).sts (os.getD i ob0).trs.length := by
  unfold objFault at h
  split at h
  · split at h
    · simp at h
    · split at h
      · rename_i h2; exact chart_good h2
      · rename_i h2
        have := checkOf_code (os.getD i ob0).sts (os.getD i ob0).trs (limOf sg os nt i)
        simp only at h
        omega
  · simp at h
theorem leaf_ini {ss : List StD} {tn : Nat} (g : GoodT ss tn) {s : Nat} (hs : s < ss.length) : decide (kids ss ss.length s = []) = decide (ini ss s = -1) := by
  have h := g.ini s hs
  unfold badI at h
  by_cases e : kids ss ss.length s = []
  · rw [if_pos e] at h
    simp only [Bool.not_eq_false', decide_eq_true_eq] at h
    rw [decide_eq_true e, decide_eq_true h]
  · rw [if_neg e] at h
    simp only [Bool.not_eq_false', decide_eq_true_eq] at h
    rw [decide_eq_false e, decide_eq_false (by omega)]

set_option maxHeartbeats 800000 in
theorem l4SystemOK_any (sg : Int) (eo xo : Option Addr) (en ec xn xc : Nat) (os : List ObD) (ts : List (Int × Int)) (w : World) (hen : en ≤ 9223372036854775807) (hec : en ≤ ec) (hxn : xn ≤ 9223372036854775807) (he : ObsOf w eo en os) (hx : ItemsOf w xo xn ts) :
    Calls Tryz.prog 62 #[.agg #[.int .i64 sg, .slice eo en ec, .slice xo xn xc]] w fun e w' => e = .returned (.bool (decide ((sysFault sg os ts).1 = 0))) ∧ Below w.heap.size w w' := by
  have B := below1 w (.cells #[.int .i64 sg, .slice eo en ec, .slice xo xn xc] 42)
  have C := hid (specSystem_any sg eo xo en ec xn xc os ts _ hen hec hxn (he.below B) (hx.below B))
  obtain ⟨fc, hfc⟩ : ∃ fc, fc = (sysFault sg os ts).1 := ⟨_, rfl⟩
  rw [← hfc] at C ⊢
  have BB := hid B
  clear he hx hfc B
  by_cases h0 : fc = 0
  · subst h0
    go_enter Tryz.func62, Tryz.ntmps62
    go_wp2_with (go_at_call 91; refine C.out.mono ?_; rintro e w1 ⟨rfl, hb1⟩; have B1 := hid (BB.out.trans (hb1.mono BB.out.size)); clear hb1)
    go_ret
    exact ⟨ret_bool (by simp), B1.out⟩
  · have h0' : (fc == 0) = false := by simpa using h0
    have H0 := hid h0
    go_enter Tryz.func62, Tryz.ntmps62
    go_wp2_with (go_at_call 91; refine C.out.mono ?_; rintro e w1 ⟨rfl, hb1⟩; have B1 := hid (BB.out.trans (hb1.mono BB.out.size)); clear hb1)
    go_ret
    exact ⟨ret_bool (by simp [H0.out]), B1.out⟩

set_option maxHeartbeats 800000 in
theorem l3Leaf_any (so po : Option Addr) (n sc tn tc : Nat) (ss : List StD) (l : Int) (w : World) (hn : n ≤ 9223372036854775807) (hs : StatesOf w so n ss) :
    Calls Tryz.prog 63 #[.agg #[.slice so n sc, .slice po tn tc], .int .i64 l] w fun e w' => e = .returned (.bool (leafB ss l)) ∧ Below w.heap.size w w' := by
  have HL := hid hs.1
  have B := below1 w (.cells #[.slice so n sc, .slice po tn tc] 132)
  have C1 := hid (l1Between_any l 0 ((n : Int) - 1))
  have BB := hid B
  by_cases h : 0 ≤ l ∧ l ≤ (n : Int) - 1
  · obtain ⟨s, rfl⟩ : ∃ s : Nat, l = s := ⟨l.toNat, by omega⟩
    have C2 := hid (l2HasChild_any so po n sc tn tc ss s _ hn (hs.below B))
    rw [show betB (s : Int) 0 ((n : Int) - 1) = true from (betB_yes h).symm] at C1
    have E : Hid (leafB ss (s : Int) = !(decide (¬ kids ss ss.length s = []))) := hid (by
      unfold leafB
      rw [HL.out, show betB (s : Int) 0 ((n : Int) - 1) = true from (betB_yes h).symm]
      by_cases e : kids ss n s = [] <;> simp [e])
    rw [E.out]
    obtain ⟨kb, hkb⟩ : ∃ kb, kb = decide (¬ kids ss ss.length s = []) := ⟨_, rfl⟩
    rw [← hkb] at C2 ⊢
    clear hs hkb h B
    cases kb
    all_goals
      go_enter Tryz.func63, Tryz.ntmps63
      go_wp2_with (first | (go_at_call 31; refine (C1.out _).mono ?_; rintro e wa ⟨rfl, hw⟩; obtain rfl := hw.symm) | (go_at_call 92; refine C2.out.mono ?_; rintro e w1 ⟨rfl, hb1⟩; have B1 := hid (BB.out.trans (hb1.mono BB.out.size)); clear hb1))
      go_ret
      exact ⟨rfl, B1.out⟩
  · rw [show betB l 0 ((n : Int) - 1) = false from (betB_not h).symm] at C1
    have E : Hid (leafB ss l = false) := hid (by unfold leafB; rw [HL.out, show betB l 0 ((n : Int) - 1) = false from (betB_not h).symm]; rfl)
    rw [E.out]
    clear hs h B
    go_enter Tryz.func63, Tryz.ntmps63
    go_wp2_with (go_at_call 31; refine (C1.out _).mono ?_; rintro e wa ⟨rfl, hw⟩; obtain rfl := hw.symm)
    go_ret
    exact ⟨rfl, BB.out⟩

set_option maxHeartbeats 1600000 in
theorem l4EventsOK_any (ao : Option Addr) (n c : Nat) (es : List (Int × Int)) (most sg : Int) (w : World) (hn : n ≤ 9223372036854775807) (hs1 : 1 ≤ sg) (hs2 : sg ≤ 64) (hs : ItemsOf w ao n es) :
    Calls Tryz.prog 65 #[.slice ao n c, .int .i64 most, .int .i64 sg] w fun e w' => e = .returned (.bool (evB es most sg)) ∧ Below w.heap.size w w' := by
  have HL := hid hs.1
  go_enter Tryz.func65, Tryz.ntmps65
  go_wp2
  go_loopw [11] (fun i wr => ∃ k : Nat, k ≤ n ∧ i = .int .i64 k ∧ Hid (∀ j, j < k → 0 ≤ (es.getD j (0, 0)).1 ∧ (es.getD j (0, 0)).1 < sg) ∧ Below w.heap.size w wr) (fun i _ => n - (intOf i).toNat)
  case atStart => exact ⟨0, Nat.zero_le _, rfl, hid (fun j h => absurd h (by omega)), Below.refl _ _⟩
  case round =>
    obtain ⟨k, hk, rfl, HP, hb⟩ := hrel
    have HB := hid hb
    by_cases hlt : k < n
    · obtain ⟨b, off, rfl, hbl, hc⟩ := hs.2 (by omega)
      have k1 := (hb.cell (p := ⟨b, off + k * 2, none⟩) hbl).trans (hc k hlt).1
      have k2 := (hb.cell (p := ⟨b, off + k * 2 + 1, none⟩) hbl).trans (hc k hlt).2
      obtain ⟨v, hv⟩ : ∃ v, v = (es.getD k (0, 0)).1 := ⟨_, rfl⟩
      obtain ⟨u, hu⟩ : ∃ u, u = (es.getD k (0, 0)).2 := ⟨_, rfl⟩
      rw [← hv] at k1
      rw [← hu] at k2
      have C := hid (l1Between_any v 0 (sg - 1))
      have kn : (k : Int) < (n : Int) := by omega
      have B1 := hid (hb.trans ((below1 wr (.cells #[.int .i64 v, .int .i64 u] 70)).mono hb.size))
      by_cases hr : 0 ≤ v ∧ v ≤ sg - 1
      · rw [show betB v 0 (sg - 1) = true from (betB_yes hr).symm] at C
        have EV : Hid (0 ≤ (es.getD k (0, 0)).1 ∧ (es.getD k (0, 0)).1 < sg) := hid (by rw [← hv]; omega)
        clear hs hc hb hv hu hr
        go_wp2_with (go_at_call 31; refine (C.out _).mono ?_; rintro e wa ⟨rfl, hw⟩; obtain rfl := hw.symm)
        go_roundw
        case rel =>
          refine ⟨k + 1, by omega, by go_num, hid (fun j hj => ?_), B1.out⟩
          by_cases e : j = k
          · subst e; exact EV.out
          · exact HP.out j (by omega)
        case measure => simp [intOf]; omega
      · rw [show betB v 0 (sg - 1) = false from (betB_not hr).symm] at C
        have E : Hid (evB es most sg = false) := hid (by
          unfold evB
          rw [decide_eq_false_iff_not]
          intro h'
          have := h'.1 k (by rw [HL.out]; exact hlt)
          rw [← hv] at this
          omega)
        clear hs hc hb hv hu hr
        go_wp2_with (go_at_call 31; refine (C.out _).mono ?_; rintro e wa ⟨rfl, hw⟩; obtain rfl := hw.symm)
        go_ret
        exact ⟨ret_bool E.out.symm, B1.out⟩
    · have e : k = n := by omega
      subst e
      have HP' : Hid (evP es sg) := hid (by intro j hj; exact HP.out j (by rw [← HL.out]; exact hj))
      clear hs hb
      by_cases hm : (k : Int) ≤ most
      · have E : Hid (evB es most sg = true) := hid (by unfold evB; rw [decide_eq_true_iff, HL.out]; exact ⟨HP'.out, hm⟩)
        go_wp2
        go_ret
        exact ⟨ret_bool (by rw [E.out]), HB.out⟩
      · have E : Hid (evB es most sg = false) := hid (by unfold evB; rw [decide_eq_false_iff_not, HL.out]; exact fun h => hm h.2)
        go_wp2
        go_ret
        exact ⟨ret_bool (by rw [E.out]), HB.out⟩
end Go.Proofs.YthaklmdhkkfigaaGreat

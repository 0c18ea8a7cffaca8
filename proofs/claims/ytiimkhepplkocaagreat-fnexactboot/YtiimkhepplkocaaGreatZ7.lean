import Derived.Test.YtiimkhepplkocaaGreatZ6
namespace Go.Proofs.YtiimkhepplkocaaGreat
open Go.RowKit Go.Sort
set_option linter.unusedVariables false
attribute [local go_sem ↓] Go.wp_at_zero Go.wp_at_succ

set_option maxHeartbeats 1600000 in
theorem machineOf_no (so tq : Option Addr) (n sc tn tc : Nat) (ss : List StD) (ts : List TrD) (o s t v : Int) (w : World) (hn : n ≤ 9223372036854775807) (htn : tn ≤ 9223372036854775807) (hs : StatesOf w so n ss) (ht : TransOf w tq tn ts) (hc : ¬ (checkOf ss ts ⟨o, s, t, v⟩).1 = 0) :
    Calls Tryz.prog 43 #[.agg #[.slice so n sc, .slice tq tn tc], .agg #[.int .i64 o, .int .i64 s, .int .i64 t, .int .i64 v]] w fun e w' => e = .returned (.tuple #[.pointer none, .bool false]) ∧ Below w.heap.size w w' := by
  have EN := hid (env_start w #[.slice so n sc, .slice tq tn tc] #[.int .i64 o, .int .i64 s, .int .i64 t, .int .i64 v])
  have C := hid (implCheck_any so tq n sc tn tc ss ts o s t v _ hn htn (hs.below EN.out.bel) (ht.below EN.out.bel))
  obtain ⟨f0, hf0⟩ : ∃ f, f = (checkOf ss ts ⟨o, s, t, v⟩).1 := ⟨_, rfl⟩
  obtain ⟨f1, hf1⟩ : ∃ f, f = (checkOf ss ts ⟨o, s, t, v⟩).2 := ⟨_, rfl⟩
  rw [← hf0, ← hf1] at C
  rw [← hf0] at hc
  have hne : (f0 != 0) = true := by simpa using hc
  clear hs ht hf0 hf1
  go_enter Tryz.func43, Tryz.ntmps43
  go_wp2_with (go_at_call 98; refine C.out.mono ?_; rintro e w1 ⟨rfl, hb1⟩; have B1 := hid (EN.out.below hb1); clear hb1)
  go_ret2
  exact ⟨rfl, B1.out.bel⟩

set_option maxHeartbeats 1600000 in
theorem machineOf_ok (so tq : Option Addr) (n sc tn tc : Nat) (ss : List StD) (ts : List TrD) (o s t v : Int) (w : World) (hn : n ≤ 9223372036854775807) (htn : tn ≤ 9223372036854775807) (hs : StatesOf w so n ss) (ht : TransOf w tq tn ts) (hc : (checkOf ss ts ⟨o, s, t, v⟩).1 = 0) :
    Calls Tryz.prog 43 #[.agg #[.slice so n sc, .slice tq tn tc], .agg #[.int .i64 o, .int .i64 s, .int .i64 t, .int .i64 v]] w fun e w' => ∃ w0 N tg tcap B P M E F ev xv L lets act, e = .returned (.tuple #[.pointer (some ⟨M, 0, none⟩), .bool true]) ∧ w.heap.size ≤ w0.heap.size ∧ L2 w0 #[.slice so n sc, .slice tq tn tc] #[.int .i64 o, .int .i64 s, .int .i64 t, .int .i64 v] N tg tcap ss ts n ⟨o, s, t, v⟩ B P M tn E F ev xv L lets act w' ∧ Below w.heap.size w w' := by
  have EN := hid (env_start w #[.slice so n sc, .slice tq tn tc] #[.int .i64 o, .int .i64 s, .int .i64 t, .int .i64 v])
  have C := hid (implCheck_any so tq n sc tn tc ss ts o s t v _ hn htn (hs.below EN.out.bel) (ht.below EN.out.bel))
  have K := hid (fun w' (hb : Below w.heap.size w w') => liftMachine_any so tq n sc tn tc ss ts o s t v (chk_of hc) w' (hs.below hb) (ht.below hb))
  obtain ⟨f1, hf1⟩ : ∃ f, f = (checkOf ss ts ⟨o, s, t, v⟩).2 := ⟨_, rfl⟩
  rw [hc, ← hf1] at C
  clear hs ht hf1 hc
  go_enter Tryz.func43, Tryz.ntmps43
  go_wp2_with (first
    | (go_at_call 98; refine C.out.mono ?_; rintro e w1 ⟨rfl, hb1⟩; have B1 := hid (EN.out.below hb1); obtain ⟨q0, q1⟩ := two_cells B1.out.ch; obtain ⟨l0, l1, l2, l3⟩ := quad_cells B1.out.li; clear hb1)
    | (go_at_call 99; refine (K.out _ B1.out.bel).mono ?_; rintro e w2 ⟨N, tg, tcap, B, P, M, E, F, ev, xv, L, lets, act, rfl, hL2⟩; have HL2 := hid hL2; clear hL2))
  go_ret2
  exact ⟨w1, N, tg, tcap, B, P, M, E, F, ev, xv, L, lets, act, rfl, B1.out.bel.size, HL2.out, B1.out.bel.trans (HL2.out.l1.mb.bel.mono B1.out.bel.size)⟩

theorem flat_take {α : Type} (xs : List (List α)) (c : Nat) (hc : c < xs.length) : (xs.take (c + 1)).flatten = (xs.take c).flatten ++ xs.getD c [] := by
  have : xs.take (c + 1) = xs.take c ++ [xs.getD c []] := by
    rw [List.take_add_one, List.getD_eq_getElem?_getD, List.getElem?_eq_getElem hc]; rfl
  rw [this, List.flatten_append]
  simp
theorem flat_take_le {α : Type} (xs : List (List α)) (c : Nat) : (xs.take c).flatten.length ≤ xs.flatten.length := by
  have h : xs.flatten = (xs.take c).flatten ++ (xs.drop c).flatten := by rw [← List.flatten_append, List.take_append_drop]
  rw [h, List.length_append]
  omega
/-- The lists that a handler holds. -/
structure Lists (X : World) (l : LimD) (P : Nat) (lv : Value) (LS : List Value) (xs : List (List StmD)) : Prop where
  box : X.heap[P]? = some (.cells #[lv] 105 (0, 0))
  row : X.ownsRow 0 118 1 lv LS.length LS
  len : xs.length = LS.length
  each : ∀ i, i < LS.length → StmR X 0 l (LS.getD i undef) (xs.getD i [])
theorem Lists.stir {B : Nat} {X Y : World} {l : LimD} {P : Nat} {lv : Value} {LS : List Value} {xs : List (List StmD)} (h : Lists X l P lv LS xs) (hs : Stir B X Y) : Lists Y l P lv LS xs :=
  ⟨hs.box h.box (by decide) (by decide) (by decide), hs.own h.row (by decide) (by decide) (by decide), h.len, fun i hi => by
    obtain ⟨vs, h1, h2⟩ := h.each i hi
    exact ⟨vs, h1, hs.own h2 (by decide) (by decide) (by decide)⟩⟩

set_option maxRecDepth 100000 in
set_option maxHeartbeats 4000000 in
/-- A row's handler carries its lists out, one after another. -/
theorem runAll_any (l : LimD) (P : Nat) (lv : Value) (LS : List Value) (xs : List (List StmD)) (mb B : Nat) (ks vs : List Int) (arg : Int) (es : List EffD) (w : World) (hL : Lists w l P lv LS xs) (hl : l.v = vs.length) (hkv : ks.length = vs.length) (hk : ∀ i, i < ks.length → 1 ≤ ks.getD i 0 ∧ ks.getD i 0 ≤ 7)
    (hx : LS.length ≤ 1000) (he : es.length + xs.flatten.length ≤ 1000000) (hB : B ≤ w.heap.size) (h : Mom w B mb ks vs arg es) :
    Calls Tryz.prog 163 #[.pointer (some ⟨mb, 0, none⟩), .pointer (some ⟨P, 0, none⟩)] w fun e w' => e = .returned (.tuple #[]) ∧ Mom w' B mb ks (execS l.v ks arg vs xs.flatten).1 arg (es ++ (execS l.v ks arg vs xs.flatten).2) ∧ Stir B w w' := by
  obtain ⟨lo, lc, rfl⟩ := slice_of hL.row
  have c0 : w.cell? ⟨P, 0, none⟩ = some (.slice lo LS.length lc) := by
    have := hL.box
    simp [World.cell?, this]
  have HL := hid hL
  have HM := hid h
  have HE := hid he
  obtain ⟨m, hm⟩ : ∃ m, m = LS.length := ⟨_, rfl⟩
  rw [← hm] at c0
  have hxm : m ≤ 1000 := by rw [hm]; exact hx
  have EM := hid hm
  clear hL h hm he
  go_enter Tryz.func163, Tryz.ntmps163
  go_wp2_with fail
  go_loopg [7] m (fun mm i X => ∃ c : Nat, c ≤ m ∧ mm = m - c ∧ i = .int .i64 c ∧ Mom X B mb ks (execS l.v ks arg vs (xs.take c).flatten).1 arg (es ++ (execS l.v ks arg vs (xs.take c).flatten).2) ∧ Stir B w X)
  case atStart => exact ⟨0, by omega, by omega, rfl, by simpa [execS] using HM.out, Stir.refl _ _⟩
  case round =>
    obtain ⟨c, hc, rfl, rfl, hMo, hSt⟩ := hrel
    by_cases hlt : c < m
    · have hL2 := HL.out.stir hSt
      obtain ⟨g, gc, hgv, _, _⟩ := World.ownsRow.form hL2.row (by have := EM.out; omega)
      have hlo : lo = some ⟨g, 0, none⟩ ∧ lc = gc := by simpa using hgv
      obtain ⟨rfl, rfl⟩ := hlo
      obtain ⟨nodes, hno, hrow⟩ := hL2.each c (by have := EM.out; omega)
      obtain ⟨ao, ac, hav⟩ := slice_of hrow
      have cel : wr.cell? ⟨g, c, none⟩ = some (.slice ao nodes.length ac) := by
        rw [World.ownsRow.cellAt hL2.row c (by have := EM.out; omega), ← hav, List.getD_eq_getElem?_getD, List.getElem?_eq_getElem (by have := EM.out; omega)]
        rfl
      rw [hav] at hrow
      have XL : Hid (c < xs.length) := hid (by have := HL.out.len; have := EM.out; omega)
      have FT := hid (flat_take xs c XL.out)
      have L1 := execS_len l.v ks arg (xs.take c).flatten vs
      have CA := hid (carryOutAll_any l (xs.getD c []) nodes (.slice ao nodes.length ac) mb B ks (execS l.v ks arg vs (xs.take c).flatten).1 arg (es ++ (execS l.v ks arg vs (xs.take c).flatten).2) wr hno (by rw [L1.1]; exact hl) (by rw [L1.1]; exact hkv) hk (by
        have h1 := HE.out
        have h2 := flat_take_le xs (c + 1)
        rw [FT.out, List.length_append] at h2
        have h3 := L1.2
        rw [List.length_append]
        omega) (Nat.le_trans hB hSt.size) hrow hMo)
      have EX : Hid (execS l.v ks arg vs (xs.take (c + 1)).flatten = ((execS l.v ks arg (execS l.v ks arg vs (xs.take c).flatten).1 (xs.getD c [])).1, (execS l.v ks arg vs (xs.take c).flatten).2 ++ (execS l.v ks arg (execS l.v ks arg vs (xs.take c).flatten).1 (xs.getD c [])).2)) := hid (by rw [FT.out, execS_append])
      have ci : (c : Int) < (m : Int) := by omega
      have ST := hid hSt
      clear hMo hSt hL2 hno hrow hav hgv L1 FT
      go_wp2_with (go_at_call 68; refine CA.out.mono ?_; rintro e w1 ⟨rfl, hm1, hs1⟩; have M1 := hid hm1; have S1 := hid (ST.out.trans hs1); clear hm1 hs1)
      go_roundg (m - (c + 1))
      case measure => omega
      case rel => exact ⟨c + 1, by omega, rfl, by go_num, by rw [EX.out]; simpa [List.append_assoc] using M1.out, S1.out⟩
    · obtain rfl : c = m := by omega
      have e : xs.take c = xs := List.take_of_length_le (by have := HL.out.len; have := EM.out; omega)
      rw [e] at hMo
      have M1 := hid hMo
      have S1 := hid hSt
      clear hMo hSt
      go_wp2_with fail
      go_end0
      exact ⟨rfl, M1.out, S1.out⟩
end Go.Proofs.YtiimkhepplkocaaGreat

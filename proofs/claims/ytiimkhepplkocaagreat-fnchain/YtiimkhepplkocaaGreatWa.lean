import Derived.Test.YtiimkhepplkocaaGreatIa
import Derived.Deep.LoopGhost
import Derived.Test.YtiimkhepplkocaaGreatV9
import Derived.Deep.RegionHeld3
import Derived.Test.YtiimkhepplkocaaGreatV7
namespace Go.Proofs.YtiimkhepplkocaaGreat
open Go.RowKit Go.Sort
set_option linter.unusedVariables false
attribute [local go_sem ↓] Go.wp_at_zero Go.wp_at_succ
theorem run_neq_of {P : Program} {w : World} {t : TypeId} {x y : Option Addr} {b : Bool} (h : (binOp .eql t (.pointer x) (.pointer y)).run P w = .ok (.bool b) w) : (binOp .neq t (.pointer x) (.pointer y)).run P w = .ok (.bool (!b)) w := by
 simp only [binOp] at h ⊢
 simp only [Sem.run_bind, Sem.run_pure] at h ⊢
 cases hq : (Op.equal t (.pointer x) (.pointer y)).run P w with
 | ok a w' =>
  rw [hq] at h
  simp only [Result.andThen_ok, Result.ok.injEq, Value.bool.injEq] at h ⊢
  obtain ⟨rfl, rfl⟩ := h
  exact ⟨rfl, rfl⟩
 | _ => rw [hq] at h; simp [Result.andThen] at h
theorem nePtr {w : World} {N : Nat → Nat} {ss : List StD} {n : Nat} (hN : Nodes w N ss n) (hB : NodeB w N n) {i j : Nat} (hi : i < n) (hj : j < n) {b : Bool} (hb : b = decide (¬ i = j)) :
  (binOp .neq 110 (.pointer (some ⟨N i, 0, none⟩)) (.pointer (some ⟨N j, 0, none⟩))).run Tryz.prog w = .ok (.bool b) w := by
 rw [run_neq_of (eqPtr hN hB hi hj rfl), hb]
 by_cases e : i = j <;> simp [e]
set_option maxHeartbeats 400000 in
theorem isLeaf_any (N : Nat → Nat) (ss : List StD) (k : Nat) (hk : k < ss.length) (w : World) (hN : NodesI w N ss ss.length) :
  Calls Tryz.prog 45 #[.pointer (some ⟨N k, 0, none⟩)] w fun e w' => e = .returned (.bool (decide (ini ss k < 0))) ∧ w' = w := by
 have c2 := hN.2 k hk
 unfold iniV at c2
 clear hN
 by_cases h : ini ss k < 0
 ·rw [if_pos h] at c2
  have D : Hid (decide (ini ss k < 0) = true) := hid (decide_eq_true h)
  rw [D.out]
  clear h D
  go_enter Tryz.func45, Tryz.ntmps45
  go_wp2
  go_ret
  exact ⟨rfl, rfl⟩
 ·rw [if_neg h] at c2
  have D : Hid (decide (ini ss k < 0) = false) := hid (decide_eq_false h)
  rw [D.out]
  clear h D
  go_enter Tryz.func45, Tryz.ntmps45
  go_wp2
  go_ret
  exact ⟨rfl, rfl⟩
set_option maxHeartbeats 1600000 in
theorem pathBelow_in (N : Nat → Nat) (ss : List StD) (T : TreeOK ss) (h200 : ss.length ≤ 200) (k d : Nat) (hk : k < ss.length) (hd : d < ss.length) (pre : List Nat) (hpre : up ss k = pre ++ up ss d) (w : World) (hN : Nodes w N ss ss.length) (hNB : NodeB w N ss.length) :
  Calls Tryz.prog 104 #[.pointer (some ⟨N k, 0, none⟩), .pointer (some ⟨N d, 0, none⟩)] w fun e w' => ∃ v, e = .returned v ∧ OwnP w w' v N pre ∧ Below w.heap.size w w' := by
 obtain ⟨i0, hi, hz0, hz1, hz2⟩ := info_parts Tryz.info110
 have HN := hid hN
 have HNB := hid hNB
 have HPre := hid hpre
 clear hN hNB hpre
 have HU := hid (up_len T k hk)
 go_enter Tryz.func104, Tryz.ntmps104
 go_wp2
 go_loopg [5, 6] (k + 1) (fun m l p wr => Below w.heap.size w wr ∧ ∃ done rest : List Nat, ∃ j : Nat, wr.ownsRow w.heap.size 110 1 l done.length (ptrs N done) ∧ pre = done ++ rest ∧ j < ss.length ∧ m = j + 1 ∧ p = .pointer (some ⟨N j, 0, none⟩) ∧ up ss j = rest ++ up ss d)
 case atStart => exact ⟨Below.refl _ _, [], pre, k, World.ownsRow_nil _ _ _ _, rfl, hk, rfl, rfl, HPre.out⟩
 case round =>
  obtain ⟨hb, done, rest, j, ho, hp, hj, rfl, rfl, hup⟩ := hrel
  have HB := hid hb
  have HO := hid ho
  have HP := hid hp
  have HUJ := hid hup
  obtain ⟨ao, cap, hv⟩ := slice_of ho
  subst hv
  have hlen : done.length + 1 ≤ 300 := by
   have h1 := HU.out
   rw [HPre.out, hp] at h1
   simp only [List.length_append] at h1
   have h2 : 0 < (up ss d).length := by rw [up_form T hd]; simp
   omega
  clear ho hp hup
  by_cases e : j = d
  ·subst e
   have hq := nePtr (HN.out.below (hb.mono (Nat.le_refl _))) (HNB.out.below hb) hj hj (b := false) (by simp)
   clear hb
   go_wp2
   go_ret
   have hr : rest = [] := by
    have := HUJ.out
    have h3 := congrArg List.length this
    simp only [List.length_append] at h3
    exact List.eq_nil_of_length_eq_zero (by omega)
   exact ⟨_, rfl, by rw [HP.out, hr]; simpa [OwnP] using HO.out, HB.out⟩
  ·have hq := nePtr (HN.out.below hb) (HNB.out.below hb) hj hd (b := true) (by simp [e])
   obtain ⟨n1, n2, n3⟩ := HN.out j hj
   have hj0 : j ≠ 0 := by
    rintro rfl
    have h4 := HUJ.out
    rw [up_zero, up_form T hd] at h4
    cases rest with
    | nil => simp at h4; exact e h4.1
    | cons a r => simp at h4
   have ht := T.2 j (by omega) hj
   obtain ⟨p, hpp⟩ : ∃ p : Nat, par ss j = p := ⟨(par ss j).toNat, by omega⟩
   have n3' : w.cell? ⟨N j, 1, none⟩ = some (.pointer (some ⟨N p, 0, none⟩)) := by rw [n3, parV, if_neg hj0, hpp, Int.toNat_natCast]
   have hpj : p < j := by omega
   obtain ⟨r2, hr2, hr3⟩ : ∃ r2, rest = j :: r2 ∧ up ss p = r2 ++ up ss d := by
    have h4 := HUJ.out
    rw [up_pos T (by omega) hj, hpp, Int.toNat_natCast] at h4
    cases rest with
    | nil => rw [up_form T hd] at h4; simp at h4; exact absurd h4.1 e
    | cons a r => simp at h4; exact ⟨r, by rw [h4.1], h4.2⟩
   have R3 := hid hr3
   have R2 := hid hr2
   clear n2 n3 ht hpp hr2 hr3 hb
   go_wp2_with (at_builtin; refine wpList_append_lies _ rfl (.tmp 15) (.tmp 17) 104 rfl w.heap.size 110 i0 _ 1 8 Tryz.underlying104 hi hz0 hz1 hz2 rfl (by decide) _ _ _ rfl (HO.out.alloc _) ⟨wr.heap.size, 0, none⟩ 1 1 [.pointer (some ⟨N j, 0, none⟩)] rfl rfl (news_one _ _ _) (by intro u hu; simp at hu; subst hu; rfl) (by omega) (by unfold maxLen; omega) (by omega) (by have := HB.out.size; simp; omega) (wr.heap.size + 1) (by simp) ?_)
   intro g cap' w2 hown hgrow _ _
   have B2 : Hid (Below w.heap.size w w2) := hid ((HB.out.alloc HB.out.size _).grown hgrow (by have := HB.out.size; simp; omega) (fun kk e => (HO.out.lt kk e).1))
   have c1 := (B2.out.cell (p := ⟨N j, 1, none⟩) n1).trans n3'
   have O2 := hid hown
   clear hown hgrow hq
   go_wp2
   go_roundg (p + 1)
   case measure => omega
   case rel => exact ⟨B2.out, done ++ [j], r2, p, by simpa [ptrs] using O2.out, by rw [HP.out, R2.out]; simp, by omega, rfl, rfl, R3.out⟩
set_option maxHeartbeats 1600000 in
theorem pathBelow_nil (N : Nat → Nat) (ss : List StD) (T : TreeOK ss) (h200 : ss.length ≤ 200) (k : Nat) (hk : k < ss.length) (w : World) (hN : Nodes w N ss ss.length) :
  Calls Tryz.prog 104 #[.pointer (some ⟨N k, 0, none⟩), .pointer none] w fun e w' => ∃ g cap, e = .returned (.slice (some ⟨g, 0, none⟩) (up ss k).length cap) ∧ OwnP w w' (.slice (some ⟨g, 0, none⟩) (up ss k).length cap) N (up ss k) ∧ Below w.heap.size w w' := by
 obtain ⟨i0, hi, hz0, hz1, hz2⟩ := info_parts Tryz.info110
 have HN := hid hN
 clear hN
 have HU := hid (up_len T k hk)
 go_enter Tryz.func104, Tryz.ntmps104
 go_wp2
 go_loopg [5, 6] (k + 1) (fun m l p wr => Below w.heap.size w wr ∧ ∃ pre : List Nat, wr.ownsRow w.heap.size 110 1 l pre.length (ptrs N pre) ∧ ((m = 0 ∧ p = .pointer none ∧ pre = up ss k) ∨ ∃ j, j < ss.length ∧ m = j + 1 ∧ p = .pointer (some ⟨N j, 0, none⟩) ∧ up ss k = pre ++ up ss j))
 case atStart => exact ⟨Below.refl _ _, [], World.ownsRow_nil _ _ _ _, .inr ⟨k, hk, rfl, rfl, rfl⟩⟩
 case round =>
  obtain ⟨hb, pre, ho, hcase⟩ := hrel
  have HB := hid hb
  have HO := hid ho
  obtain ⟨ao, cap, hv⟩ := slice_of ho
  subst hv
  clear hb ho
  rcases hcase with ⟨rfl, rfl, rfl⟩ | ⟨j, hj, rfl, rfl, hpre⟩
  ·go_wp2
   go_ret
   have hpos : 0 < (up ss k).length := by rw [up_form T hk]; simp
   obtain ⟨g, cap', e, _, _⟩ := World.ownsRow.form HO.out hpos
   exact ⟨g, cap', by rw [← e]; rfl, by rw [← e]; exact HO.out, HB.out⟩
  ·obtain ⟨n1, n2, n3⟩ := HN.out j hj
   have hlen : pre.length + 1 ≤ 300 := by
    have := HU.out
    rw [hpre, List.length_append, up_form T hj, List.length_cons] at this
    omega
   have HP := hid hpre
   by_cases h0 : j = 0
   ·subst h0
    have n3' : w.cell? ⟨N 0, 1, none⟩ = some (.pointer none) := by rw [n3]; rfl
    clear n2 n3 hpre
    go_wp2_with (at_builtin; refine wpList_append_lies _ rfl (.tmp 15) (.tmp 17) 104 rfl w.heap.size 110 i0 _ 1 8 Tryz.underlying104 hi hz0 hz1 hz2 rfl (by decide) _ _ _ rfl (HO.out.alloc _) ⟨wr.heap.size, 0, none⟩ 1 1 [.pointer (some ⟨N 0, 0, none⟩)] rfl rfl (news_one _ _ _) (by intro u hu; simp at hu; subst hu; rfl) (by omega) (by unfold maxLen; omega) (by omega) (by have := HB.out.size; simp; omega) (wr.heap.size + 1) (by simp) ?_)
    intro g cap' w2 hown hgrow _ _
    have B2 : Hid (Below w.heap.size w w2) := hid ((HB.out.alloc HB.out.size _).grown hgrow (by have := HB.out.size; simp; omega) (fun kk e => (HO.out.lt kk e).1))
    have c1 := (B2.out.cell (p := ⟨N 0, 1, none⟩) n1).trans n3'
    have O2 := hid hown
    clear hown hgrow
    go_wp2
    go_roundg 0
    case measure => omega
    case rel => exact ⟨B2.out, up ss k, by rw [HP.out, up_zero]; simpa [ptrs] using O2.out, .inl ⟨rfl, rfl, rfl⟩⟩
   ·have ht := T.2 j (by omega) hj
    obtain ⟨p, hp⟩ : ∃ p : Nat, par ss j = p := ⟨(par ss j).toNat, by omega⟩
    have n3' : w.cell? ⟨N j, 1, none⟩ = some (.pointer (some ⟨N p, 0, none⟩)) := by rw [n3, parV, if_neg h0, hp, Int.toNat_natCast]
    have HQ : Hid (up ss k = (pre ++ [j]) ++ up ss p) := hid (by rw [hpre, up_pos T (by omega) hj, hp, Int.toNat_natCast]; simp)
    have hpj : p < j := by omega
    clear n2 n3 hpre ht hp
    go_wp2_with (at_builtin; refine wpList_append_lies _ rfl (.tmp 15) (.tmp 17) 104 rfl w.heap.size 110 i0 _ 1 8 Tryz.underlying104 hi hz0 hz1 hz2 rfl (by decide) _ _ _ rfl (HO.out.alloc _) ⟨wr.heap.size, 0, none⟩ 1 1 [.pointer (some ⟨N j, 0, none⟩)] rfl rfl (news_one _ _ _) (by intro u hu; simp at hu; subst hu; rfl) (by omega) (by unfold maxLen; omega) (by omega) (by have := HB.out.size; simp; omega) (wr.heap.size + 1) (by simp) ?_)
    intro g cap' w2 hown hgrow _ _
    have B2 : Hid (Below w.heap.size w w2) := hid ((HB.out.alloc HB.out.size _).grown hgrow (by have := HB.out.size; simp; omega) (fun kk e => (HO.out.lt kk e).1))
    have c1 := (B2.out.cell (p := ⟨N j, 1, none⟩) n1).trans n3'
    have O2 := hid hown
    clear hown hgrow
    go_wp2
    go_roundg (p + 1)
    case measure => omega
    case rel => exact ⟨B2.out, pre ++ [j], by simpa [ptrs] using O2.out, .inr ⟨p, by omega, rfl, rfl, HQ.out⟩⟩
def below (ss : List StD) (k : Nat) (d : Int) : List Nat := (up ss k).takeWhile fun x => decide (¬ (x : Int) = d)
theorem below_nil (ss : List StD) (k : Nat) : below ss k (-1) = up ss k := by
 have key : ∀ l : List Nat, l.takeWhile (fun (x : Nat) => decide (¬ (x : Int) = -1)) = l := by
  intro l
  induction l with
  | nil => rfl
  | cons a r ih => rw [List.takeWhile_cons_of_pos (by simp), ih]
 exact key _
theorem below_at {ss : List StD} (T : TreeOK ss) {k d : Nat} (hk : k < ss.length) (hd : d ∈ up ss k) : up ss k = below ss k d ++ up ss d := by
 have key : ∀ n k, k < n → k < ss.length → d ∈ up ss k → up ss k = below ss k d ++ up ss d := by
  intro n
  induction n with
  | zero => intro k h; omega
  | succ n ih =>
   intro k hkn hk hd
   by_cases e : k = d
   ·subst e
    have hf := up_form T hk
    unfold below
    rw [hf]
    simp
   ·by_cases h0 : k = 0
    ·subst h0
     rw [up_zero] at hd
     simp at hd
     omega
    ·have ht := T.2 k (by omega) hk
     have hp := up_pos T (by omega) hk
     have hd2 : d ∈ up ss (par ss k).toNat := by
      rw [hp] at hd
      rcases List.mem_cons.1 hd with h | h
      ·exact absurd h.symm e
      ·exact h
     have := ih (par ss k).toNat (by omega) (by omega) hd2
     unfold below at this ⊢
     rw [hp, List.takeWhile_cons_of_pos (by simp; omega), List.cons_append, ← this]
 exact key (k + 1) k (by omega) hk hd
theorem pathBelow_any (N : Nat → Nat) (ss : List StD) (T : TreeOK ss) (h200 : ss.length ≤ 200) (k : Nat) (d : Int) (hk : k < ss.length) (hd : d = -1 ∨ ∃ m : Nat, d = m ∧ m < ss.length ∧ m ∈ up ss k) (w : World) (hN : Nodes w N ss ss.length) (hNB : NodeB w N ss.length) :
  Calls Tryz.prog 104 #[.pointer (some ⟨N k, 0, none⟩), if d = -1 then .pointer none else .pointer (some ⟨N d.toNat, 0, none⟩)] w fun e w' => ∃ v, e = .returned v ∧ OwnP w w' v N (below ss k d) ∧ Below w.heap.size w w' := by
 rcases hd with rfl | ⟨m, rfl, hm, hmk⟩
 ·rw [if_pos rfl, below_nil]
  exact (pathBelow_nil N ss T h200 k hk w hN).mono fun e w' ⟨g, cap, h1, h2, h3⟩ => ⟨_, h1, h2, h3⟩
 ·rw [if_neg (by omega), Int.toNat_natCast]
  exact pathBelow_in N ss T h200 k m hk hm (below ss k m) (below_at T hk hmk) w hN hNB
end Go.Proofs.YtiimkhepplkocaaGreat
namespace Go.Proofs.YtiimkhepplkocaaGreat
open Go.RowKit Go.Sort
set_option linter.unusedVariables false
attribute [local go_sem ↓] Go.wp_at_zero Go.wp_at_succ
def rev (l : List Nat) (a x : Nat) : Nat := if x < a ∨ l.length - a ≤ x then l.getD (l.length - 1 - x) 0 else l.getD x 0
theorem rev_end {l : List Nat} {a : Nat} (h : l.length ≤ 2 * a + 1) (x : Nat) (hx : x < l.length) : rev l a x = l.reverse.getD x 0 := by
 have e : l.reverse.getD x 0 = l.getD (l.length - 1 - x) 0 := by
  simp [List.getD_eq_getElem?_getD, List.getElem?_reverse hx]
 rw [e]
 unfold rev
 split
 ·rfl
 ·rw [show l.length - 1 - x = x by omega]
set_option maxRecDepth 100000 in
set_option maxHeartbeats 4000000 in
theorem reverse_any (g n cap B : Nat) (l : List Nat) (w : World) (hl : l.length = n) (hn : n ≤ 300) (ho : w.ownsRow B 3 1 (.slice (some ⟨g, 0, none⟩) n cap) n (ints l)) :
  Calls Tryz.prog 105 #[.slice (some ⟨g, 0, none⟩) n cap] w fun e w' => e = .returned (.tuple #[]) ∧ w'.ownsRow B 3 1 (.slice (some ⟨g, 0, none⟩) n cap) n (ints l.reverse) ∧ Only (.slice (some ⟨g, 0, none⟩) n cap) w w' := by
 have HO := hid ho
 have HL := hid hl
 clear ho hl
 go_enter Tryz.func105, Tryz.ntmps105
 go_wp2
 go_loopg [2, 3] n (fun m i j wr => ∃ a : Nat, 2 * a ≤ n + 1 ∧ m = n - a ∧ i = .int .i64 a ∧ j = .int .i64 ((n : Int) - 1 - a) ∧ Hid (∃ xs, wr.ownsRow B 3 1 (.slice (some ⟨g, 0, none⟩) n cap) n xs ∧ ∀ x, x < n → xs[x]? = some (.int .i64 ((rev l a x : Nat) : Int))) ∧ Hid (Only (.slice (some ⟨g, 0, none⟩) n cap) w wr))
 case atStart =>
  refine ⟨0, by omega, by omega, rfl, by first | rfl | simp | (congr 1; omega), hid ⟨ints l, HO.out, fun x hx => ?_⟩, hid (Only.refl _ _)⟩
  have h1 := HL.out
  unfold rev
  rw [if_neg (by omega)]
  simp [ints, List.getD_eq_getElem?_getD, show x < l.length by omega]
 case round =>
  obtain ⟨a, ha, rfl, rfl, rfl, HX, HB⟩ := hrel
  by_cases hlt : (a : Int) < (n : Int) - 1 - a
  ·obtain ⟨xs, ho, hx⟩ := HX.out
   obtain ⟨b, hb⟩ : ∃ b : Nat, (n : Int) - 1 - a = b ∧ b = n - 1 - a := ⟨n - 1 - a, by omega, rfl⟩
   have c1 := (World.ownsRow.cellAt ho a (by omega)).trans (hx a (by omega))
   have c2 := (World.ownsRow.cellAt ho b (by omega)).trans (hx b (by omega))
   have f1 := World.ownsRow.frozenAt ho a
   have f2 := World.ownsRow.frozenAt ho b
   have hab : a < b := by omega
   have nab : ¬ a = b := by omega
   have nba : ¬ b = a := by omega
   have i1 : (a : Int) < (n : Int) := by omega
   have i2 : (b : Int) < (n : Int) := by omega
   have i3 : (a : Int) < (b : Int) := by omega
   obtain ⟨ra, hra⟩ : ∃ r, r = rev l a a := ⟨_, rfl⟩
   obtain ⟨rb, hrb⟩ : ∃ r, r = rev l a b := ⟨_, rfl⟩
   rw [← hra] at c1
   rw [← hrb] at c2
   rw [hb.1]
   have OO := hid ho
   have HXX := hid hx
   have HRA := hid hra
   have HRB := hid hrb
   have HBB := hid hb
   clear ho hx hra hrb hb hlt
   go_wp2
   go_region
   all_goals
    go_wp2
    go_roundg (n - (a + 1))
    case measure => have := HBB.out; omega
    case rel =>
     have hb := HBB.out
     have hl := HL.out
     refine ⟨a + 1, by omega, rfl, by go_num, by first | (congr 1; omega) | (simp; omega), hid ⟨_, (World.ownsRow.stored (World.ownsRow.stored OO.out a _).1 b _).1, fun x hx => ?_⟩, hid ((HB.out.trans (Only.set _)).trans (Only.set _)).drew⟩
     have hlen : xs.length = n := by have := OO.out.1; omega
     simp only [List.getElem?_set, List.length_set]
     split
     ·rename_i e
      subst e
      rw [if_pos (by omega), HRA.out]
      unfold rev
      rw [if_neg (by omega), if_pos (by omega), show l.length - 1 - b = a by omega]
     ·split
      ·rename_i e
       subst e
       rw [if_pos (by omega), HRB.out]
       unfold rev
       rw [if_neg (by omega), if_pos (by omega), show l.length - 1 - a = b by omega]
      ·rw [HXX.out x hx]
       unfold rev
       by_cases h1 : x < a ∨ l.length - a ≤ x
       ·rw [if_pos h1, if_pos (by omega)]
       ·rw [if_neg h1, if_neg (by omega)]
  ·have d1 : decide ((a : Int) < (n : Int) - 1 - a) = false := decide_eq_false hlt
   go_wp2
   go_end0
   obtain ⟨xs, ho, hx⟩ := HX.out
   have hl := HL.out
   have hlen : xs.length = n := by have := ho.1; omega
   have e : xs = ints l.reverse := by
    apply List.ext_getElem?
    intro x
    by_cases hxn : x < n
    ·rw [hx x hxn, rev_end (by omega) x (by omega)]
     simp [ints, List.getD_eq_getElem?_getD, hl, hxn]
    ·rw [List.getElem?_eq_none (by omega), List.getElem?_eq_none (by simp [ints]; omega)]
   rw [e] at ho
   exact ⟨rfl, ho, HB.out⟩
end Go.Proofs.YtiimkhepplkocaaGreat
namespace Go.Proofs.YtiimkhepplkocaaGreat
open Go.RowKit Go.Sort
set_option linter.unusedVariables false
attribute [local go_sem ↓] Go.wp_at_zero Go.wp_at_succ
theorem lastB_cases (P : Nat → Bool) : ∀ n, lastB P n = -1 ∨ ∃ m : Nat, lastB P n = m ∧ m < n ∧ P m = true := by
 intro n
 induction n with
 | zero => exact .inl rfl
 | succ n ih =>
  by_cases h : P n = true
  ·exact .inr ⟨n, lastB_at (Nat.lt_succ_self n) h (fun j h1 h2 => by omega), Nat.lt_succ_self n, h⟩
  ·have e : lastB P (n + 1) = lastB P n := by simp [lastB, h]
   rw [e]
   rcases ih with h1 | ⟨m, h1, h2, h3⟩
   ·exact .inl h1
   ·exact .inr ⟨m, h1, by omega, h3⟩
theorem dom_cases (ss : List StD) (f t : Nat) : dom ss f t = -1 ∨ ∃ m : Nat, dom ss f t = m ∧ m < ss.length ∧ m ∈ (up ss f).tail ∧ m ∈ (up ss t).tail := by
 rcases lastB_cases (fun s => aboveB ss s f && aboveB ss s t) ss.length with h | ⟨m, h1, h2, h3⟩
 ·exact .inl h
 ·simp only [aboveB, Bool.and_eq_true, decide_eq_true_eq] at h3
  exact .inr ⟨m, h1, h2, h3.1, h3.2⟩
def exitsOf (ss : List StD) (leaf f t : Nat) : List Nat := below ss leaf (dom ss f t)
def entersOf (ss : List StD) (f t : Nat) : List Nat := (below ss t (dom ss f t)).reverse ++ down ss t
theorem below_sub {ss : List StD} {k : Nat} {d : Int} : ∀ x, x ∈ below ss k d → x ∈ up ss k := fun x hx => (List.takeWhile_sublist _).subset hx
theorem below_len {ss : List StD} (T : TreeOK ss) {k : Nat} (hk : k < ss.length) (d : Int) : (below ss k d).length ≤ k + 1 := Nat.le_trans (List.Sublist.length_le (List.takeWhile_sublist _)) (up_len T k hk)
theorem below_lt {ss : List StD} (T : TreeOK ss) {k : Nat} (hk : k < ss.length) (d : Int) : ∀ x, x ∈ below ss k d → x < ss.length := fun x hx => Nat.lt_of_le_of_lt (up_le T k hk x (below_sub x hx)) hk
theorem down_lt {ss : List StD} {tn : Nat} (G : GoodT ss tn) : ∀ e k, k < ss.length → ss.length - k = e → ∀ x, x ∈ down ss k → x < ss.length := by
 intro e
 induction e using Nat.strongRecOn with
 | ind e ih =>
  intro k hk he x hx
  rcases ini_good G hk with h | ⟨h1, h2⟩
  ·rw [down_leaf (by omega)] at hx; cases hx
  ·rw [down_in G hk (by omega)] at hx
   rcases List.mem_cons.1 hx with h | h
   ·omega
   ·exact ih (ss.length - (ini ss k).toNat) (by omega) (ini ss k).toNat (by omega) rfl x h
theorem below_head {ss : List StD} (T : TreeOK ss) {f t : Nat} (ht : t < ss.length) : below ss t (dom ss f t) ≠ [] := by
 intro h
 have hd : ¬ ((t : Nat) : Int) = dom ss f t := by
  rcases dom_cases ss f t with h1 | ⟨m, h1, h2, h3, h4⟩
  ·omega
  ·have := up_tail_lt T ht h4; omega
 unfold below at h
 rw [up_form T ht, List.takeWhile_cons_of_pos (by simpa using hd)] at h
 cases h
def nextOf (ss : List StD) (f t : Nat) : Nat := (entersOf ss f t).getD ((entersOf ss f t).length - 1) 0
theorem six_cells {w : World} {H : Nat} {a b c d e f : Value} {t : TypeId} (h : w.heap[H]? = some (.cells #[a, b, c, d, e, f] t (0, 0))) : w.cell? ⟨H, 0, none⟩ = some a ∧ w.cell? ⟨H, 1, none⟩ = some b ∧ w.cell? ⟨H, 2, none⟩ = some c ∧ w.cell? ⟨H, 3, none⟩ = some d ∧ w.cell? ⟨H, 4, none⟩ = some e ∧ w.cell? ⟨H, 5, none⟩ = some f := by simp [World.cell?, h]
abbrev set4 (X : World) (r : Nat) (a b c d : Value) : World := (((X.setCell ⟨r, 0, none⟩ a).setCell ⟨r, 1, none⟩ b).setCell ⟨r, 2, none⟩ c).setCell ⟨r, 3, none⟩ d
theorem far4 {X : World} {r H o : Nat} {a b c d : Value} (h : H ≠ r) : (set4 X r a b c d).cell? ⟨H, o, none⟩ = X.cell? ⟨H, o, none⟩ := (cell_far h).trans ((cell_far h).trans ((cell_far h).trans (cell_far h)))
theorem row4 {X : World} {r : Nat} {a b c d x0 x1 x2 x3 : Value} {t : TypeId} (h : X.heap[r]? = some (.cells #[x0, x1, x2, x3] t (0, 0))) : (set4 X r a b c d).heap[r]? = some (.cells #[a, b, c, d] t (0, 0)) := by
 have m1 := heap_setCell_same X r 0 _ _ a h
 have m2 := heap_setCell_same _ r 1 _ _ b m1
 have m3 := heap_setCell_same _ r 2 _ _ c m2
 have m4 := heap_setCell_same _ r 3 _ _ d m3
 rw [m4]; simp
theorem own4 {X : World} {r B : Nat} {a b c d : Value} {cs : Array Value} {t e : TypeId} {size n : Nat} {v : Value} {xs : List Value} (ho : X.ownsRow B e size v n xs) (h : X.heap[r]? = some (.cells cs t (0, 0))) (ht : t ≠ e) : (set4 X r a b c d).ownsRow B e size v n xs := by
 have f := own_far ho ht h
 exact ownsRow_setCell_other (a := ⟨r, 3, none⟩) (ownsRow_setCell_other (a := ⟨r, 2, none⟩) (ownsRow_setCell_other (a := ⟨r, 1, none⟩) (ownsRow_setCell_other (a := ⟨r, 0, none⟩) ho f a) f b) f c) f d
theorem bel4 {w X : World} {r : Nat} {a b c d : Value} (h : Below w.heap.size w X) (hr : w.heap.size ≤ r) : Below w.heap.size w (set4 X r a b c d) := (((h.setCell hr _).setCell hr _).setCell hr _).setCell hr _
structure Hd (w : World) (mv : Array Value) (X : World) : Prop where
 bel : Below w.heap.size w X
 x : X.heap[w.heap.size]? = some (.cells mv 120 (0, 0))
 r : X.heap[w.heap.size + 1]? = some (.cells #[.int .i64 0, .slice none 0 0, .slice none 0 0, .int .i64 0] 44 (0, 0))
theorem Hd.below {w : World} {mv : Array Value} {X Y : World} (h : Hd w mv X) (hb : Below X.heap.size X Y) : Hd w mv Y := ⟨h.bel.trans (hb.mono h.bel.size), block_below h.x hb, block_below h.r hb⟩
theorem Hd.only {w : World} {mv : Array Value} {X Y : World} {g n c B : Nat} {xs : List Value} (h : Hd w mv X) (ho : Only (.slice (some ⟨g, 0, none⟩) n c) X Y) (hw : X.ownsRow B 3 1 (.slice (some ⟨g, 0, none⟩) n c) n xs) (hg : w.heap.size ≤ g) : Hd w mv Y :=
 ⟨h.bel.trans (ho.below (fun b e => by simp [Value.ownBlock] at e; omega)), (ho.block _ (own_far hw (by decide) h.x)).trans h.x, (ho.block _ (own_far hw (by decide) h.r)).trans h.r⟩
theorem Hd.grown {w : World} {mv : Array Value} {X Y : World} {v : Value} {n B : Nat} {xs : List Value} (h : Hd w mv X) (hg : X.grownBy Y v.ownBlock) (hw : X.ownsRow B 3 1 v n xs) (hB : w.heap.size ≤ B) : Hd w mv Y :=
 ⟨h.bel.trans ⟨hg.os, hg.tape, hg.output, hg.size, fun k hk => hg.block k (Nat.lt_of_lt_of_le hk h.bel.size) (fun e => by have := (hw.lt k e.symm).1; omega)⟩,
  (hg.block _ (lt_of_block h.x) (fun e => own_far hw (by decide) h.x e.symm)).trans h.x, (hg.block _ (lt_of_block h.r) (fun e => own_far hw (by decide) h.r e.symm)).trans h.r⟩
set_option maxRecDepth 100000 in
set_option maxHeartbeats 8000000 in
theorem header_to (N : Nat → Nat) (ss : List StD) (tn : Nat) (G : GoodT ss tn) (leaf f t : Nat) (hl : leaf < ss.length) (hf : f < ss.length) (ht : t < ss.length) (hlf : f ∈ up ss leaf) (ix sg : Int) (lets act : Value) (w : World) (hN : NodesI w N ss ss.length) (hNB : NodeB w N ss.length) :
  Calls Tryz.prog 47 #[.agg #[.int .i64 ix, .int .i64 sg, .pointer (some ⟨N f, 0, none⟩), .pointer (some ⟨N t, 0, none⟩), lets, act], .pointer (some ⟨N leaf, 0, none⟩)] w fun e w' => ∃ ge ce gn cn, e = .returned (.agg #[.int .i64 ix, .slice (some ⟨ge, 0, none⟩) (exitsOf ss leaf f t).length ce, .slice (some ⟨gn, 0, none⟩) (entersOf ss f t).length cn, .int .i64 (nextOf ss f t)]) ∧
   OwnI w w' (.slice (some ⟨ge, 0, none⟩) (exitsOf ss leaf f t).length ce) (exitsOf ss leaf f t) ∧ OwnI w w' (.slice (some ⟨gn, 0, none⟩) (entersOf ss f t).length cn) (entersOf ss f t) ∧ ge ≠ gn ∧ Below w.heap.size w w' := by
 have T := G.tree
 have h200 := G.n2
 have HS : Hid (∀ w', Below w.heap.size w w' → NodesI w' N ss ss.length ∧ NodeB w' N ss.length) := fun w' h => ⟨hN.below h, hNB.below h⟩
 obtain ⟨dv, hdv⟩ : ∃ dv, dv = domV N ss f t := ⟨_, rfl⟩
 have CA := hid (fun w' (h : Below w.heap.size w w') => common_any N ss T h200 f t hf ht w' (HS.out w' h).1.1 (HS.out w' h).2)
 have dcase := dom_cases ss f t
 have PT : Hid (∀ w', Below w.heap.size w w' → Calls Tryz.prog 104 #[.pointer (some ⟨N t, 0, none⟩), dv] w' fun e w'' => ∃ v, e = .returned v ∧ OwnP w' w'' v N (below ss t (dom ss f t)) ∧ Below w'.heap.size w' w'') := fun w' h => by
  rw [hdv]
  exact pathBelow_any N ss T h200 t (dom ss f t) ht (dcase.imp id fun ⟨m, h1, h2, h3, h4⟩ => ⟨m, h1, h2, List.mem_of_mem_tail h4⟩) w' (HS.out w' h).1.1 (HS.out w' h).2
 have PL : Hid (∀ w', Below w.heap.size w w' → Calls Tryz.prog 104 #[.pointer (some ⟨N leaf, 0, none⟩), dv] w' fun e w'' => ∃ v, e = .returned v ∧ OwnP w' w'' v N (exitsOf ss leaf f t) ∧ Below w'.heap.size w' w'') := fun w' h => by
  rw [hdv]
  exact pathBelow_any N ss T h200 leaf (dom ss f t) hl (dcase.imp id fun ⟨m, h1, h2, h3, h4⟩ => ⟨m, h1, h2, up_sub T leaf hl f hlf m (List.mem_of_mem_tail h3)⟩) w' (HS.out w' h).1.1 (HS.out w' h).2
 have DR := hid (fun w' (h : Below w.heap.size w w') => drill_any N ss tn G t ht w' (HS.out w' h).1)
 rw [← hdv] at CA
 have L1 : Hid ((below ss t (dom ss f t)).length ≤ 200 ∧ ∀ x, x ∈ below ss t (dom ss f t) → x < ss.length) := hid ⟨by have := below_len T ht (dom ss f t); omega, below_lt T ht _⟩
 have L2 : Hid ((down ss t).length ≤ 200 ∧ ∀ x, x ∈ down ss t → x < ss.length) := hid ⟨by have := down_len G (ss.length - t) t ht rfl; omega, down_lt G _ t ht rfl⟩
 have L3 : Hid ((exitsOf ss leaf f t).length ≤ 200 ∧ ∀ x, x ∈ exitsOf ss leaf f t → x < ss.length) := hid ⟨by have := below_len T hl (dom ss f t); unfold exitsOf; omega, below_lt T hl _⟩
 have hne := below_head T (f := f) ht
 have NX : Hid (nextOf ss f t = (entersOf ss f t).getD ((entersOf ss f t).length - 1) 0) := hid rfl
 have EN : Hid (entersOf ss f t = (below ss t (dom ss f t)).reverse ++ down ss t) := hid rfl
 obtain ⟨l3, hl3⟩ : ∃ l, l = exitsOf ss leaf f t := ⟨_, rfl⟩
 obtain ⟨le, hle⟩ : ∃ l, l = entersOf ss f t := ⟨_, rfl⟩
 obtain ⟨nx, hnx⟩ : ∃ l, l = nextOf ss f t := ⟨_, rfl⟩
 obtain ⟨l1, hl1⟩ : ∃ l, l = below ss t (dom ss f t) := ⟨_, rfl⟩
 obtain ⟨l2, hl2⟩ : ∃ l, l = down ss t := ⟨_, rfl⟩
 rw [← hl3] at PL L3 ⊢
 rw [← hnx] at NX ⊢
 rw [← hle] at EN NX ⊢
 rw [← hl1] at PT L1 EN hne
 rw [← hl2] at DR L2 EN
 have n1p : 0 < l1.length := List.length_pos_iff.2 hne
 obtain ⟨n1, hn1⟩ : ∃ n, n = l1.length := ⟨_, rfl⟩
 obtain ⟨n2, hn2⟩ : ∃ n, n = l2.length := ⟨_, rfl⟩
 have N1 := hid hn1
 have N2 := hid hn2
 have LE : Hid (le.length = n1 + n2) := hid (by rw [EN.out, List.length_append, List.length_reverse, hn1, hn2])
 have b1 : n1 ≤ 200 := by rw [hn1]; exact L1.out.1
 have b2 : n2 ≤ 200 := by rw [hn2]; exact L2.out.1
 rw [← hn1] at n1p
 have ID := hid (fun l v w0 w' (hw : Below w.heap.size w w') (h1 : l.length ≤ 200 ∧ ∀ x, x ∈ l → x < ss.length) (h2 : OwnP w0 w' v N l) => indices_any N ss l (by omega) h1.2 v w0 w' (HS.out w' hw).1.1 h2)
 obtain ⟨i0, hi0, hz0, hz1, hz2⟩ := info_parts Tryz.infoInt0
 clear hdv hN hNB dcase hl1 hl2 hl3 hle hnx hne hn1 hn2
 have H0 : Hid (Hd w #[.int .i64 ix, .int .i64 sg, .pointer (some ⟨N f, 0, none⟩), .pointer (some ⟨N t, 0, none⟩), lets, act] ((w.alloc (.cells #[.int .i64 ix, .int .i64 sg, .pointer (some ⟨N f, 0, none⟩), .pointer (some ⟨N t, 0, none⟩), lets, act] 120)).alloc (.cells #[.int .i64 0, .slice none 0 0, .slice none 0 0, .int .i64 0] 44))) := hid ⟨below2 _ _ _, block_below (heap_alloc_new w _) (below1 _ _), new22 w _ _⟩
 go_enter Tryz.func47, Tryz.ntmps47
 go_wp2_with (go_at_call 103; refine (CA.out _ (below2 _ _ _)).mono ?_; rintro e w1 ⟨rfl, hb⟩; have H1 := hid (H0.out.below hb); obtain ⟨c10, _, _, c13, _, _⟩ := six_cells H1.out.x; clear hb)
 go_wp2_with (go_at_call 104; refine (PT.out _ H1.out.bel).mono ?_; rintro e w2 ⟨v1, rfl, ho, hb⟩; have H2 := hid (H1.out.below hb); have P2 := hid ho; clear ho hb)
 go_wp2_with (go_at_call 100; refine (ID.out l1 v1 _ _ H2.out.bel L1.out P2.out).mono ?_; rw [← N1.out]; rintro e w3 ⟨g1, p1, rfl, ho, hb⟩; have H3 := hid (H2.out.below hb); have I3 := hid ho; have G1 := hid (World.ownsRow.lt ho g1 rfl); clear ho hb)
 go_wp2_with (go_at_call 105; refine (reverse_any g1 n1 p1 w2.heap.size l1 w3 N1.out.symm (by omega) (by have := I3.out; unfold OwnI at this; rw [← N1.out] at this; exact this)).mono ?_; rintro e w4 ⟨rfl, ho, hon⟩; have R4 := hid ho; have H4 := hid (H3.out.only hon (by have := I3.out; unfold OwnI at this; rw [← N1.out] at this; exact this) (Nat.le_trans H2.out.bel.size G1.out.1)); obtain ⟨c40, _, _, c43, _, _⟩ := six_cells H4.out.x; clear ho hon)
 go_wp2_with (go_at_call 101; refine (DR.out _ H4.out.bel).mono ?_; rintro e w5 ⟨v2, rfl, ho, hb⟩; have H5 := hid (H4.out.below hb); have P5 := hid ho; have R5 := hid (ownsRow_below R4.out hb); clear ho hb)
 go_wp2_with (first
  | (go_at_call 100; refine (ID.out l2 v2 _ _ H5.out.bel L2.out P5.out).mono ?_; rw [← N2.out]; rintro e w6 ⟨g2, p2, rfl, ho, hb⟩; have H6 := hid (H5.out.below hb); have I6 := hid ho; have R6 := hid (ownsRow_below R5.out hb); clear ho hb)
  | (at_builtin; refine wpList_append_own _ rfl (.tmp 31) (.tmp 35) 30 rfl w2.heap.size 3 i0 (.int .i64 0) 1 8 Tryz.underlying30 hi0 hz0 hz1 hz2 rfl (by decide) (.slice (some ⟨g1, 0, none⟩) n1 p1) n1 (ints l1.reverse) rfl R6.out ⟨g2, 0, none⟩ n2 p2 (ints l2) rfl (by rw [ints_len, ← N2.out]; omega) (own_news (by have := I6.out; unfold OwnI at this; rw [← N2.out] at this; exact this)) (ints_one l2) (by unfold maxLen; omega) (by omega) (by have := R6.out.lt g1 rfl; omega) ?_))
 intro v' w7 hown hgrow hnil
 obtain ⟨q, hq⟩ : ∃ q, n1 + n2 = q + 1 := ⟨n1 + n2 - 1, by omega⟩
 have H7 := hid (H6.out.grown hgrow R6.out H2.out.bel.size)
 have hown2 : w7.ownsRow w2.heap.size 3 1 v' (q + 1) (ints le) := by rw [EN.out, ← hq]; simpa [ints] using hown
 obtain ⟨gn, pn, hgn, hgl, hgs⟩ := World.ownsRow.form hown2 (by omega)
 subst hgn
 have O7 := hid hown2
 have LQ : Hid (le.length = q + 1) := hid (by rw [LE.out, hq])
 have lc : w7.cell? ⟨gn, q, none⟩ = some (.int .i64 nx) := by
  rw [World.ownsRow.cellAt hown2 q (by omega), NX.out, LQ.out]
  simp [ints, List.getD_eq_getElem?_getD, show q < le.length by rw [LQ.out]; omega]
 obtain ⟨c70, _, _, _, _, _⟩ := six_cells H7.out.x
 have qn : (q : Int) < (q : Int) + 1 := by omega
 have q0 : (0 : Int) ≤ (q : Int) := by omega
 have qI : (q : Int) ≤ 400 := by omega
 have qw : IntKind.i64.wrap (q : Int) = q := IntWalk.i64_in _ (by omega)
 have q3 : q ≤ 400 := by omega
 have gf : Hid (gn ≠ w.heap.size + 1) := hid (fun e => own_far hown2 (by decide) H7.out.r (by simp [Value.ownBlock, e]))
 clear hown hgrow hnil hown2
 have HQ := hid hq
 clear hq
 go_wp2_with fail
 have D7 := hid (H7.out.below ((Below.refl _ _).drew))
 clear c10 c13 c40 c43
 go_region_held3 (fun w' => w'.cell? ⟨w.heap.size, 0, none⟩ = some (.int .i64 ix) ∧ w'.cell? ⟨gn, q, none⟩ = some (.int .i64 nx)) (first | (with_reducible exact SB.out) | (with_reducible exact SA.out) | exact And.intro ((far4 (Nat.ne_of_lt (Nat.lt_succ_self _))).trans SB.out.1) ((far4 gf.out).trans SB.out.2) | go_keep)
  (first
   | (go_at_call 104; refine (PL.out _ D7.out.bel).mono ?_; rintro e w8 ⟨v3, rfl, ho, hb⟩; have H8 := hid (D7.out.below hb); have P8 := hid ho; have O8 := hid (ownsRow_below O7.out (undrew hb)); have SA := hid (And.intro (six_cells H8.out.x).1 ((undrew hb).cell (p := ⟨gn, q, none⟩) hgs |>.trans lc)); have gl8 := (O8.out.lt gn rfl).2; clear ho hb)
   | (go_at_call 100; refine (ID.out l3 v3 _ _ H8.out.bel L3.out P8.out).mono ?_; rintro e w9 ⟨g3, p3, rfl, ho, hb⟩; have H9 := hid (H8.out.below hb); have I9 := hid ho; have O9 := hid (ownsRow_below O8.out hb); have SB := hid (And.intro (six_cells H9.out.x).1 (hb.cell (p := ⟨gn, q, none⟩) gl8 |>.trans SA.out.2)); obtain ⟨z0, z1, z2, z3⟩ := quad_cells H9.out.r; obtain ⟨y0, y1, y2, y3⟩ := quad_fr4 H9.out.r; have gl9 := (World.ownsRow.lt ho g3 rfl); clear ho hb))
 all_goals
  go_wp2
  obtain ⟨k0, k1, k2, k3⟩ := quad_cells (row4 (a := .int .i64 ix) (b := .slice (some ⟨g3, 0, none⟩) l3.length p3) (c := .slice (some ⟨gn, 0, none⟩) (q + 1) pn) (d := .int .i64 nx) H9.out.r)
  refine bodyPost_ret (v := .agg #[.int .i64 ix, .slice (some ⟨g3, 0, none⟩) l3.length p3, .slice (some ⟨gn, 0, none⟩) (q + 1) pn, .int .i64 nx]) (by simp [results, Tryz.results47, go_sem, k0, k1, k2, k3]) rfl ?_
  have a1 := own4 (a := .int .i64 ix) (b := .slice (some ⟨g3, 0, none⟩) l3.length p3) (c := .slice (some ⟨gn, 0, none⟩) (q + 1) pn) (d := .int .i64 nx) I9.out H9.out.r (by decide)
  have a2 := own4 (a := .int .i64 ix) (b := .slice (some ⟨g3, 0, none⟩) l3.length p3) (c := .slice (some ⟨gn, 0, none⟩) (q + 1) pn) (d := .int .i64 nx) O9.out H9.out.r (by decide)
  refine ⟨g3, p3, gn, pn, by rw [LQ.out], ownI_mono a1 H8.out.bel.size, ?_, ?_, bel4 H9.out.bel (by omega)⟩
  ·rw [LQ.out]
   unfold OwnI
   rw [LQ.out]
   exact ownsRow_base a2 H2.out.bel.size
  ·have := gl9.1; omega
end Go.Proofs.YtiimkhepplkocaaGreat
namespace Go.Proofs.YtiimkhepplkocaaGreat
open Go.RowKit Go.Sort
set_option linter.unusedVariables false
attribute [local go_sem ↓] Go.wp_at_zero Go.wp_at_succ
theorem own_none {w : World} {B E : Nat} (h : w.heap[E]? = some (.cells #[] 3 (0, 0))) (hB : B ≤ E) : w.ownsRow B 3 1 (.slice (some ⟨E, 0, none⟩) 0 0) 0 [] :=
 ⟨rfl, .inr ⟨E, 0, #[], rfl, hB, h, Nat.le_refl _, by decide, rfl, rfl⟩⟩
theorem third (w : World) (a b c d : Obj) : ((((w.alloc a).alloc b).alloc c).alloc d).drew.heap[w.heap.size + 1 + 1]? = some c := by
 have h : (((w.alloc a).alloc b).alloc c).heap[w.heap.size + 1 + 1]? = some c := by
  have := heap_alloc_new ((w.alloc a).alloc b) c
  rwa [show ((w.alloc a).alloc b).heap.size = w.heap.size + 1 + 1 by simp] at this
 exact block_below h (below1 _ d).drew
theorem fourth (w : World) (a b c d : Obj) : ((((w.alloc a).alloc b).alloc c).alloc d).drew.heap[w.heap.size + 1 + 1 + 1]? = some d := by
 have := heap_alloc_new (((w.alloc a).alloc b).alloc c) d
 rwa [show (((w.alloc a).alloc b).alloc c).heap.size = w.heap.size + 1 + 1 + 1 by simp] at this
set_option maxRecDepth 100000 in
set_option maxHeartbeats 4000000 in
theorem header_in (N : Nat → Nat) (ss : List StD) (leaf : Nat) (hl : leaf < ss.length) (ix sg : Int) (fr lets act : Value) (w : World) (hN : Nodes w N ss ss.length) :
  Calls Tryz.prog 47 #[.agg #[.int .i64 ix, .int .i64 sg, fr, .pointer none, lets, act], .pointer (some ⟨N leaf, 0, none⟩)] w fun e w' => ∃ ge gn, e = .returned (.agg #[.int .i64 ix, .slice (some ⟨ge, 0, none⟩) 0 0, .slice (some ⟨gn, 0, none⟩) 0 0, .int .i64 (leaf : Int)]) ∧
   OwnI w w' (.slice (some ⟨ge, 0, none⟩) 0 0) [] ∧ OwnI w w' (.slice (some ⟨gn, 0, none⟩) 0 0) [] ∧ ge ≠ gn ∧ Below w.heap.size w w' := by
 obtain ⟨n1, n2, n3⟩ := hN leaf hl
 clear hN n3
 have H0 : Hid (Hd w #[.int .i64 ix, .int .i64 sg, fr, .pointer none, lets, act] ((w.alloc (.cells #[.int .i64 ix, .int .i64 sg, fr, .pointer none, lets, act] 120)).alloc (.cells #[.int .i64 0, .slice none 0 0, .slice none 0 0, .int .i64 0] 44))) := hid ⟨below2 _ _ _, block_below (heap_alloc_new w _) (below1 _ _), new22 w _ _⟩
 have SS : Hid (∀ X, Hd w #[.int .i64 ix, .int .i64 sg, fr, .pointer none, lets, act] X → X.cell? ⟨w.heap.size, 0, none⟩ = some (.int .i64 ix) ∧ X.cell? ⟨N leaf, 0, none⟩ = some (.int .i64 (leaf : Int))) := hid (fun X h => ⟨(six_cells h.x).1, (h.bel.cell (p := ⟨N leaf, 0, none⟩) n1).trans n2⟩)
 go_enter Tryz.func47, Tryz.ntmps47
 go_wp2_with fail
 have LF : Hid (∀ a b c d : Obj, ((((w.alloc a).alloc b).alloc c).alloc d).drew.cell? ⟨N leaf, 0, none⟩ = some (.int .i64 (leaf : Int))) := hid (fun a b c d => ((((below2 w a b).alloc (by simp; omega) c).alloc (by simp; omega) d).drew.cell (p := ⟨N leaf, 0, none⟩) n1).trans n2)
 have BX : Hid (∀ a b c d : Obj, Below w.heap.size w ((((w.alloc a).alloc b).alloc c).alloc d).drew) := hid (fun a b c d => (((below2 w a b).alloc (by simp; omega) c).alloc (by simp; omega) d).drew)
 clear n2
 have nl : ¬ (N leaf = w.heap.size) := by omega
 go_region_held3 (fun w' => w'.cell? ⟨w.heap.size, 0, none⟩ = some (.int .i64 ix) ∧ w'.cell? ⟨N leaf, 0, none⟩ = some (.int .i64 (leaf : Int)))
  (first | exact SS.out _ H0.out | exact SS.out _ (H0.out.below (Below.refl _ _).drew) | exact SS.out _ (H0.out.below (below1 _ _).drew) | exact SS.out _ (H0.out.below (below2 _ _ _).drew) | exact SS.out _ (H0.out.below ((Below.refl _ _).drew.alloc (Nat.le_refl _) _)) | (refine And.intro ?_ (LF.out _ _ _ _); go_keep) | go_keep)
  (first | fail)
 ·go_wp2
  refine bodyPost_ret (v := .agg #[.int .i64 ix, .slice (some ⟨w.heap.size + 1 + 1, 0, none⟩) 0 0, .slice (some ⟨w.heap.size + 1 + 1 + 1, 0, none⟩) 0 0, .int .i64 (leaf : Int)]) (by simp [results, Tryz.results47, go_sem]) rfl ?_
  exact ⟨_, _, rfl, own_none (third w _ _ _ _) (by omega), own_none (fourth w _ _ _ _) (by omega), by omega, BX.out _ _ _ _⟩
 ·go_wp2
  refine bodyPost_ret (v := .agg #[.int .i64 ix, .slice (some ⟨w.heap.size + 1 + 1 + 1, 0, none⟩) 0 0, .slice (some ⟨w.heap.size + 1 + 1, 0, none⟩) 0 0, .int .i64 (leaf : Int)]) (by simp [results, Tryz.results47, go_sem]) rfl ?_
  exact ⟨_, _, rfl, own_none (fourth w _ _ _ _) (by omega), own_none (third w _ _ _ _) (by omega), by omega, BX.out _ _ _ _⟩
end Go.Proofs.YtiimkhepplkocaaGreat
namespace Go.Proofs.YtiimkhepplkocaaGreat
open Go.RowKit Go.Sort
set_option linter.unusedVariables false
attribute [local go_sem ↓] Go.wp_at_zero Go.wp_at_succ
def bootOf (ss : List StD) : List Nat := 0 :: down ss 0
def bootTo (ss : List StD) : Nat := (bootOf ss).getD ((bootOf ss).length - 1) 0
set_option maxRecDepth 100000 in
set_option maxHeartbeats 4000000 in
theorem bootHeader_any (N : Nat → Nat) (ss : List StD) (tn : Nat) (G : GoodT ss tn) (mb tg m tc : Nat) (w : World) (hN : NodesI w N ss ss.length) (c0 : w.cell? ⟨mb, 0, none⟩ = some (.slice (some ⟨tg, 0, none⟩) m tc)) (hm0 : 0 < m) (ht : w.cell? ⟨tg, 0, none⟩ = some (.pointer (some ⟨N 0, 0, none⟩))) :
  Calls Tryz.prog 44 #[.pointer (some ⟨mb, 0, none⟩)] w fun e w' => ∃ ge gn cn, e = .returned (.agg #[.int .i64 (-1), .slice (some ⟨ge, 0, none⟩) 0 0, .slice (some ⟨gn, 0, none⟩) (bootOf ss).length cn, .int .i64 (bootTo ss)]) ∧
   OwnI w w' (.slice (some ⟨ge, 0, none⟩) 0 0) [] ∧ OwnI w w' (.slice (some ⟨gn, 0, none⟩) (bootOf ss).length cn) (bootOf ss) ∧ ge ≠ gn ∧ Below w.heap.size w w' := by
 have h0 : 0 < ss.length := G.n1
 have HS : Hid (∀ w', Below w.heap.size w w' → NodesI w' N ss ss.length) := fun w' h => hN.below h
 have DR := hid (fun w' (h : Below w.heap.size w w') => drill_any N ss tn G 0 h0 w' (HS.out w' h))
 have L2 : Hid ((down ss 0).length ≤ 200 ∧ ∀ x, x ∈ down ss 0 → x < ss.length) := hid ⟨by have := down_len G (ss.length - 0) 0 h0 rfl; have := G.n2; omega, down_lt G _ 0 h0 rfl⟩
 have EN : Hid (bootOf ss = [0] ++ down ss 0) := hid rfl
 have NX : Hid (bootTo ss = (bootOf ss).getD ((bootOf ss).length - 1) 0) := hid rfl
 obtain ⟨le, hle⟩ : ∃ l, l = bootOf ss := ⟨_, rfl⟩
 obtain ⟨nx, hnx⟩ : ∃ l, l = bootTo ss := ⟨_, rfl⟩
 obtain ⟨l2, hl2⟩ : ∃ l, l = down ss 0 := ⟨_, rfl⟩
 rw [← hnx] at NX ⊢
 rw [← hle] at EN NX ⊢
 rw [← hl2] at DR L2 EN
 obtain ⟨n2, hn2⟩ : ∃ n, n = l2.length := ⟨_, rfl⟩
 have N2 := hid hn2
 have b2 : n2 ≤ 200 := by rw [hn2]; exact L2.out.1
 have ID := hid (fun l v w0 w' (hw : Below w.heap.size w w') (h1 : l.length ≤ 200 ∧ ∀ x, x ∈ l → x < ss.length) (h2 : OwnP w0 w' v N l) => indices_any N ss l (by omega) h1.2 v w0 w' (HS.out w' hw).1 h2)
 obtain ⟨i0, hi0, hz0, hz1, hz2⟩ := info_parts Tryz.infoInt0
 have ml : mb < w.heap.size := World.block_lt_of_cell? w ⟨mb, 0, none⟩ c0
 have tl := World.block_lt_of_cell? w ⟨tg, 0, none⟩ ht
 have nm : ¬ (mb = w.heap.size) := by omega
 have nm2 : ¬ (mb = w.heap.size + 1) := by omega
 have nt : ¬ (tg = w.heap.size) := by simp at tl; omega
 have nt2 : ¬ (tg = w.heap.size + 1) := by simp at tl; omega
 have mi : (0 : Int) < (m : Int) := by omega
 clear hN hl2 hle hnx hn2
 obtain ⟨W, hW⟩ : ∃ W, W = (w.alloc (.cells #[.int .i64 0, .slice none 0 0, .slice none 0 0, .int .i64 0] 44)).alloc (.cells #[.int .i64 0] 3) := ⟨_, rfl⟩
 have BW : Hid (Below w.heap.size w W) := hid (by rw [hW]; exact below2 _ _ _)
 have RW : Hid (W.heap[w.heap.size]? = some (.cells #[.int .i64 0, .slice none 0 0, .slice none 0 0, .int .i64 0] 44 (0, 0))) := hid (by rw [hW]; exact block_below (heap_alloc_new w _) (below1 _ _))
 have OW : Hid (W.ownsRow w.heap.size 3 1 (.slice (some ⟨w.heap.size + 1, 0, none⟩) 1 1) 1 (ints [0])) := hid (by rw [hW]; simpa [ints] using own_lit w (w.alloc (.cells #[.int .i64 0, .slice none 0 0, .slice none 0 0, .int .i64 0] 44)) 0 (by simp))
 have HW := hid hW
 clear hW
 go_enter Tryz.func44, Tryz.ntmps44
 go_wp2_with (first
  | (go_at_call 101; rw [← HW.out]; refine (DR.out _ BW.out).mono ?_; rintro e w5 ⟨v2, rfl, ho, hb⟩; have B5 := hid (BW.out.trans (hb.mono BW.out.size)); have P5 := hid ho; have R5 := hid (block_below RW.out hb); have O5 := hid (ownsRow_below OW.out hb); clear ho hb)
  | (go_at_call 100; refine (ID.out l2 v2 _ _ B5.out L2.out P5.out).mono ?_; rw [← N2.out]; rintro e w6 ⟨g2, p2, rfl, ho, hb⟩; have B6 := hid (B5.out.trans (hb.mono B5.out.size)); have I6 := hid ho; have R6 := hid (block_below R5.out hb); have O6 := hid (ownsRow_below O5.out hb); clear ho hb)
  | (at_builtin; refine wpList_append_own _ rfl (.tmp 4) (.tmp 12) 30 rfl w.heap.size 3 i0 (.int .i64 0) 1 8 Tryz.underlying30 hi0 hz0 hz1 hz2 rfl (by decide) (.slice (some ⟨w.heap.size + 1, 0, none⟩) 1 1) 1 (ints [0]) rfl O6.out ⟨g2, 0, none⟩ n2 p2 (ints l2) rfl (by rw [ints_len, ← N2.out]; omega) (own_news (by have := I6.out; unfold OwnI at this; rw [← N2.out] at this; exact this)) (ints_one l2) (by unfold maxLen; omega) (by omega) B6.out.size ?_))
 intro v' w7 hown hgrow hnil
 have B7 := hid (B6.out.grown hgrow B6.out.size (fun k e => by simp [Value.ownBlock] at e; omega))
 have hown2 : w7.ownsRow w.heap.size 3 1 v' (n2 + 1) (ints le) := by rw [EN.out, Nat.add_comm]; simpa [ints] using hown
 have R7 := hid ((hgrow.block _ (lt_of_block R6.out) (fun e => own_far O6.out (by decide) R6.out e.symm)).trans R6.out)
 obtain ⟨gn, pn, hgn, hgl, hgs⟩ := World.ownsRow.form hown2 (by omega)
 rw [show 1 + n2 = n2 + 1 by omega] at *
 subst hgn
 have O7 := hid hown2
 have LQ : Hid (le.length = n2 + 1) := hid (by rw [EN.out, N2.out]; simp)
 have lc : w7.cell? ⟨gn, n2, none⟩ = some (.int .i64 nx) := by
  rw [World.ownsRow.cellAt hown2 n2 (by omega), NX.out, LQ.out]
  simp [ints, List.getD_eq_getElem?_getD, show n2 < le.length by rw [LQ.out]; omega]
 obtain ⟨z0, z1, z2, z3⟩ := quad_cells R7.out
 obtain ⟨y0, y1, y2, y3⟩ := quad_fr4 R7.out
 have rl := lt_of_block R7.out
 have gf : ¬ (gn = w.heap.size) := fun e => own_far hown2 (by decide) R7.out (by simp [Value.ownBlock, e])
 have gg : ¬ (gn = w7.heap.size) := by omega
 have rg : ¬ (w.heap.size = w7.heap.size) := by omega
 have qn : (n2 : Int) < (n2 : Int) + 1 := by omega
 have q0 : (0 : Int) ≤ (n2 : Int) := by omega
 have qw : IntKind.i64.wrap (n2 : Int) = n2 := IntWalk.i64_in _ (by omega)
 clear hown hgrow hnil hown2 c0 ht nm nm2 nt nt2 tl
 go_wp2
 obtain ⟨k0, k1, k2, k3⟩ := quad_cells (block_below (row4 (a := .int .i64 (-1)) (b := .slice (some ⟨w7.heap.size, 0, none⟩) 0 0) (c := .slice (some ⟨gn, 0, none⟩) (n2 + 1) pn) (d := .int .i64 nx) R7.out) (below1 _ (.cells #[] 3)))
 refine bodyPost_ret (v := .agg #[.int .i64 (-1), .slice (some ⟨w7.heap.size, 0, none⟩) 0 0, .slice (some ⟨gn, 0, none⟩) (n2 + 1) pn, .int .i64 nx]) (by simp [results, Tryz.results44, go_sem, k0, k1, k2, k3]) rfl ?_
 have a2 := own4 (a := .int .i64 (-1)) (b := .slice (some ⟨w7.heap.size, 0, none⟩) 0 0) (c := .slice (some ⟨gn, 0, none⟩) (n2 + 1) pn) (d := .int .i64 nx) O7.out R7.out (by decide)
 have b4 := bel4 (a := .int .i64 (-1)) (b := .slice (some ⟨w7.heap.size, 0, none⟩) 0 0) (c := .slice (some ⟨gn, 0, none⟩) (n2 + 1) pn) (d := .int .i64 nx) B7.out (Nat.le_refl _)
 refine ⟨w7.heap.size, gn, pn, by rw [LQ.out], ?_, ?_, by omega, b4.alloc b4.size _⟩
 ·exact own_none (by have := heap_alloc_new (set4 w7 w.heap.size (.int .i64 (-1)) (.slice (some ⟨w7.heap.size, 0, none⟩) 0 0) (.slice (some ⟨gn, 0, none⟩) (n2 + 1) pn) (.int .i64 nx)) (.cells #[] 3); simpa using this) B7.out.size
 ·unfold OwnI
  rw [LQ.out]
  exact ownsRow_below a2 (below1 _ _)
end Go.Proofs.YtiimkhepplkocaaGreat
namespace Go.Proofs.YtiimkhepplkocaaGreat
open Go.RowKit Go.Sort
set_option linter.unusedVariables false
attribute [local go_sem ↓] Go.wp_at_zero Go.wp_at_succ
def fits (ts : List TrD) (s : Nat) (sg : Int) (j : Nat) : Bool := decide ((ts.getD j tr0).src = s) && decide ((ts.getD j tr0).sig = sg)
def candS (ts : List TrD) (s : Nat) (sg : Int) (m : Nat) : List Nat := (List.range m).filter (fits ts s sg)
def cands (ts : List TrD) (l : List Nat) (sg : Int) : List Nat := l.flatMap fun s => candS ts s sg ts.length
theorem candS_succ (ts : List TrD) (s : Nat) (sg : Int) (m : Nat) : candS ts s sg (m + 1) = candS ts s sg m ++ (if fits ts s sg m then [m] else []) := by
 unfold candS
 rw [List.range_succ, List.filter_append]
 by_cases h : fits ts s sg m <;> simp [h]
theorem candS_len (ts : List TrD) (s : Nat) (sg : Int) (m : Nat) : (candS ts s sg m).length ≤ m := by
 unfold candS
 exact Nat.le_trans (List.length_filter_le _ _) (by simp)
theorem cands_snoc (ts : List TrD) (l : List Nat) (s : Nat) (sg : Int) : cands ts (l ++ [s]) sg = cands ts l sg ++ candS ts s sg ts.length := by simp [cands]
theorem cands_len (ts : List TrD) (sg : Int) : ∀ l : List Nat, (cands ts l sg).length ≤ l.length * ts.length := by
 intro l
 induction l with
 | nil => simp [cands]
 | cons a r ih =>
  have h1 := candS_len ts a sg ts.length
  have : cands ts (a :: r) sg = candS ts a sg ts.length ++ cands ts r sg := by simp [cands]
  rw [this, List.length_append, List.length_cons, Nat.succ_mul]
  omega
structure Cd (w : World) (bx : Array Value) (g0 : Nat) (ups : List Nat) (lv : Value) (l : List Nat) (X : World) : Prop where
 bel : Below w.heap.size w X
 q : X.heap[w.heap.size]? = some (.cells bx 36 (0, 0))
 u : ∀ j, j < ups.length → X.cell? ⟨g0, j, none⟩ = some (.int .i64 ((ups.getD j 0 : Nat) : Int))
 lt : g0 < X.heap.size
 o : X.ownsRow w.heap.size 3 1 lv l.length (ints l)
 ne : lv.ownBlock ≠ some g0
 nn : lv ≠ .slice none 0 0
theorem Cd.below {w : World} {bx : Array Value} {g0 : Nat} {ups : List Nat} {lv : Value} {l : List Nat} {X Y : World} (h : Cd w bx g0 ups lv l X) (hb : Below X.heap.size X Y) : Cd w bx g0 ups lv l Y :=
 ⟨h.bel.trans (hb.mono h.bel.size), block_below h.q hb, fun j hj => (hb.cell (p := ⟨g0, j, none⟩) h.lt).trans (h.u j hj), Nat.lt_of_lt_of_le h.lt hb.size, ownsRow_below h.o hb, h.ne, h.nn⟩
theorem Cd.grown {w : World} {bx : Array Value} {g0 : Nat} {ups : List Nat} {lv : Value} {l l' : List Nat} {X Y : World} {g cap : Nat} (h : Cd w bx g0 ups lv l X) (hg : X.grownBy Y lv.ownBlock) (ho : Y.ownsRow w.heap.size 3 1 (.slice (some ⟨g, 0, none⟩) l'.length cap) l'.length (ints l')) (hat : lv.ownBlock = some g ∨ g = X.heap.size) : Cd w bx g0 ups (.slice (some ⟨g, 0, none⟩) l'.length cap) l' Y := by
 refine ⟨h.bel.trans ⟨hg.os, hg.tape, hg.output, hg.size, fun k hk => hg.block k (Nat.lt_of_lt_of_le hk h.bel.size) (fun e => by have := (h.o.lt k e.symm).1; omega)⟩,
  (hg.block _ (lt_of_block h.q) (fun e => own_far h.o (by decide) h.q e.symm)).trans h.q, fun j hj => (hg.cell_far ⟨g0, j, none⟩ h.lt (fun e => h.ne e.symm)).trans (h.u j hj), Nat.lt_of_lt_of_le h.lt hg.size, ho, ?_, by simp⟩
 intro e
 simp [Value.ownBlock] at e
 rcases hat with h1 | h1
 ·exact h.ne (by rw [h1, e])
 ·have := h.lt; omega
set_option maxRecDepth 100000 in
set_option maxHeartbeats 8000000 in
theorem l3Cand_any (so tq : Option Addr) (n sc tn tc : Nat) (ss : List StD) (ts : List TrD) (T : TreeOK ss) (hn : n ≤ 200) (htn : tn ≤ 500) (k : Nat) (hk : k < n) (sg : Int) (w : World) (hs : StatesOf w so n ss) (ht : TransOf w tq tn ts) :
  Calls Tryz.prog 50 #[.agg #[.slice so n sc, .slice tq tn tc], .int .i64 k, .int .i64 sg] w fun e w' => ∃ g cap, e = .returned (.slice (some ⟨g, 0, none⟩) (cands ts (up ss k) sg).length cap) ∧ OwnI w w' (.slice (some ⟨g, 0, none⟩) (cands ts (up ss k) sg).length cap) (cands ts (up ss k) sg) ∧ Below w.heap.size w w' := by
 obtain ⟨i0, hi0, hz0, hz1, hz2⟩ := info_parts Tryz.infoInt0
 have HL : Hid (ts.length = tn) := ht.1
 have hks : k < ss.length := by rw [hs.1]; exact hk
 have C := hid (l2Up_any so tq n sc tn tc ss T hn k hk ((w.alloc (.cells #[.slice so n sc, .slice tq tn tc] 36)).alloc (.cells #[] 3)) (hs.below (below2 _ _ _)))
 have HT := hid ht
 have UL := hid (up_len T k hks)
 have US : ss.length ≤ 200 := by rw [hs.1]; exact hn
 obtain ⟨ups, hups⟩ : ∃ l, l = up ss k := ⟨_, rfl⟩
 rw [← hups] at C UL ⊢
 obtain ⟨nu, hnu⟩ : ∃ n, n = ups.length := ⟨_, rfl⟩
 rw [← hnu] at C UL
 have NU := hid hnu
 have n2 : nu ≤ 200 := by have := UL.out; omega
 have Q0 := hid (new21 w (.cells #[.slice so n sc, .slice tq tn tc] 36) (.cells #[] 3))
 have E0 := hid (new22 w (.cells #[.slice so n sc, .slice tq tn tc] 36) (.cells #[] 3))
 clear hs ht hups hnu UL
 go_enter Tryz.func50, Tryz.ntmps50
 go_wp2_with (go_at_call 109; refine C.out.mono ?_; rintro e w1 ⟨g0, c0, rfl, ho, _, hb⟩; have B1 := hid ((below2 _ _ _).trans (hb.mono (by simp; omega))); have Q1 := hid (block_below Q0.out hb); have E1 := hid (block_below E0.out hb); have G1 := hid (World.ownsRow.lt ho g0 rfl); have U1 := hid (ownI_cells ho NU.out); clear ho hb)
 have CL := hid (fun a => cands_len ts sg (ups.take a))
 go_loopg [7, 17] nu (fun mm lv i X => ∃ a : Nat, a ≤ nu ∧ mm = nu - a ∧ i = .int .i64 a ∧ Cd w #[.slice so n sc, .slice tq tn tc] g0 ups lv (cands ts (ups.take a) sg) X)
 case atStart =>
  have hg := G1.out
  simp at hg
  refine ⟨0, by omega, by omega, rfl, B1.out, Q1.out, fun j hj => U1.out.2.2 j (by rw [NU.out]; exact hj), hg.2, ?_, by simp [Value.ownBlock]; omega, by simp⟩
  simpa [cands, ints] using own_none E1.out (show w.heap.size ≤ w.heap.size + 1 by omega)
 case round =>
  obtain ⟨a, ha, rfl, rfl, hC⟩ := hrel
  by_cases hlt : a < nu
  ·have cu := hC.u a (by rw [← NU.out]; exact hlt)
   obtain ⟨s, hsv⟩ : ∃ s, s = ups.getD a 0 := ⟨_, rfl⟩
   rw [← hsv] at cu
   have HSV := hid hsv
   obtain ⟨q0, q1, _, _⟩ := pair_cells hC.q
   obtain ⟨ao, cap, hv⟩ := slice_of hC.o
   have CC := hid hC
   subst hv
   have ai : (a : Int) < (nu : Int) := by omega
   have L0 : Hid ((cands ts (ups.take a) sg).length ≤ 100000) := hid (by
    have h1 := CL.out a
    have h2 : (ups.take a).length ≤ 200 := by simp; omega
    have h3 : ts.length ≤ 500 := by rw [HL.out]; exact htn
    exact Nat.le_trans h1 (Nat.le_trans (Nat.mul_le_mul h2 h3) (by omega)))
   clear hC hsv
   go_wp2_with fail
   clear cu q0 q1
   go_loopg [7, 24] tn (fun mm lv j X => ∃ b : Nat, b ≤ tn ∧ mm = tn - b ∧ j = .int .i64 b ∧ Cd w #[.slice so n sc, .slice tq tn tc] g0 ups lv (cands ts (ups.take a) sg ++ candS ts s sg b) X)
   case atStart => exact ⟨0, by omega, by omega, rfl, by simpa [candS] using CC.out⟩
   case round =>
    obtain ⟨b, hb, rfl, rfl, hD⟩ := hrel
    have DD := hid hD
    obtain ⟨ao2, cap2, hv2⟩ := slice_of hD.o
    subst hv2
    by_cases hbt : b < tn
    ·obtain ⟨tb, off, rfl, htl, htc⟩ := HT.out.2 (by omega)
     obtain ⟨x1, x2, ⟨co, cn, cc, x3, _, _⟩, x4, ⟨do_, dn, dc, x5, _, _⟩⟩ := htc b hbt
     obtain ⟨td, htd⟩ : ∃ td, td = ts.getD b tr0 := ⟨_, rfl⟩
     rw [← htd] at x1 x2 x4
     have y1 := (hD.bel.cell (p := ⟨tb, off + b * 5, none⟩) htl).trans x1
     have y2 := (hD.bel.cell (p := ⟨tb, off + b * 5 + 1, none⟩) htl).trans x2
     have y3 := (hD.bel.cell (p := ⟨tb, off + b * 5 + 2, none⟩) htl).trans x3
     have y4 := (hD.bel.cell (p := ⟨tb, off + b * 5 + 3, none⟩) htl).trans x4
     have y5 := (hD.bel.cell (p := ⟨tb, off + b * 5 + 4, none⟩) htl).trans x5
     have bi : (b : Int) < (tn : Int) := by omega
     have FI : Hid (fits ts s sg b = (decide (td.src = s) && decide (td.sig = sg))) := hid (by unfold fits; rw [← htd])
     have L1 : Hid ((cands ts (ups.take a) sg ++ candS ts s sg b).length ≤ 200000) := hid (by have := L0.out; have := candS_len ts s sg b; simp only [List.length_append]; omega)
     obtain ⟨sr, hsr⟩ : ∃ x, x = td.src := ⟨_, rfl⟩
     obtain ⟨si, hsi⟩ : ∃ x, x = td.sig := ⟨_, rfl⟩
     rw [← hsr] at y1 FI
     rw [← hsi] at y2 FI
     clear hD htc x1 x2 x3 x4 x5 htd hsr hsi
     by_cases hfit : fits ts s sg b = true
     ·have hf2 := hfit
      rw [FI.out] at hf2
      simp only [Bool.and_eq_true, decide_eq_true_eq] at hf2
      obtain ⟨rfl, rfl⟩ := hf2
      have EX := hid (show candS ts s si (b + 1) = candS ts s si b ++ [b] by rw [candS_succ, if_pos hfit])
      clear hfit FI
      go_wp2_with (at_builtin; refine wpList_append_lies _ rfl (.tmp 39) (.tmp 41) 30 rfl w.heap.size 3 i0 _ 1 8 Tryz.underlying30 hi0 hz0 hz1 hz2 rfl (by decide) _ _ _ rfl (DD.out.below (below2 _ _ _)).o ⟨wr.heap.size + 1, 0, none⟩ 1 1 [.int .i64 (b : Int)] rfl rfl (by simpa using news_one (wr.alloc (.cells #[.int .i64 (s : Int), .int .i64 si, .slice co cn cc, .int .i64 td.target, .slice do_ dn dc] 60)) (.int .i64 (b : Int)) 3) (by intro u hu; simp at hu; subst hu; rfl) (by omega) (by have := L1.out; unfold maxLen; omega) (by have := L1.out; omega) (by have := DD.out.bel.size; simp; omega) (wr.heap.size + 1 + 1) (by simp) ?_)
      intro g cap' w2 hown hgrow hat _
      rw [← List.length_append] at hgrow hat
      have D2 := hid ((DD.out.below (below2 wr _ _)).grown (l' := cands ts (ups.take a) si ++ candS ts s si (b + 1)) hgrow (by rw [EX.out]; simpa [ints, Nat.add_assoc] using hown) (by simpa using hat))
      have LE : Hid ((cands ts (ups.take a) si ++ candS ts s si b).length + 1 = (cands ts (ups.take a) si ++ candS ts s si (b + 1)).length) := hid (by rw [EX.out]; simp; omega)
      clear hown hgrow hat
      go_wp2
      go_roundg (tn - (b + 1))
      case measure => omega
      case rel => exact ⟨b + 1, by omega, rfl, by simp, by rw [← List.length_append, LE.out]; exact D2.out⟩
     ·have EX := hid (show candS ts s sg (b + 1) = candS ts s sg b by rw [candS_succ, if_neg hfit, List.append_nil])
      have hf2 := hfit
      rw [FI.out] at hf2
      have D2 : Hid (Cd w #[.slice so n sc, .slice (some ⟨tb, off, none⟩) tn tc] g0 ups (.slice ao2 (cands ts (ups.take a) sg ++ candS ts s sg b).length cap2) (cands ts (ups.take a) sg ++ candS ts s sg (b + 1)) (wr.alloc (.cells #[.int .i64 sr, .int .i64 si, .slice co cn cc, .int .i64 td.target, .slice do_ dn dc] 60))) := hid (by rw [EX.out]; exact DD.out.below (Below.alloc (Below.refl _ _) (Nat.le_refl _) _))
      clear hfit FI
      by_cases h1 : sr = s
      ·subst h1
       have h2 : ¬ si = sg := by intro e; apply hf2; simp [e]
       clear hf2
       go_wp2_with fail
       go_roundg (tn - (b + 1))
       case measure => omega
       case rel => exact ⟨b + 1, by omega, rfl, by simp, by simpa using D2.out⟩
      ·clear hf2
       go_wp2_with fail
       go_roundg (tn - (b + 1))
       case measure => omega
       case rel => exact ⟨b + 1, by omega, rfl, by simp, by simpa using D2.out⟩
    ·obtain rfl : b = tn := by omega
     have D2 : Hid (Cd w #[.slice so n sc, .slice tq b tc] g0 ups (.slice ao2 (cands ts (ups.take a) sg ++ candS ts s sg b).length cap2) (cands ts (ups.take (a + 1)) sg) wr) := hid (by
      have h1 : ups.take (a + 1) = ups.take a ++ [s] := by
       rw [HSV.out, List.take_add_one]
       have := NU.out
       rw [List.getD_eq_getElem?_getD, List.getElem?_eq_getElem (by omega)]; rfl
      rw [h1, cands_snoc, HL.out]; exact DD.out)
     clear hD
     go_wp2_with fail
     go_roundg (nu - (a + 1))
     case measure => omega
     case rel => exact ⟨a + 1, by omega, rfl, by simp, by simpa using D2.out⟩
  ·obtain rfl : a = nu := by omega
   have hT : ups.take a = ups := by rw [NU.out]; exact List.take_length
   rw [hT] at hC
   rcases hC.o.2 with ⟨h1, _⟩ | ⟨g, cap, cur, rfl, _⟩
   ·exact absurd h1 hC.nn
   ·have CC := hid hC
    clear hC
    go_wp2
    go_ret
    exact ⟨g, cap, rfl, CC.out.o, CC.out.bel⟩
end Go.Proofs.YtiimkhepplkocaaGreat
namespace Go.Proofs.YtiimkhepplkocaaGreat
open Go.RowKit Go.Sort
set_option linter.unusedVariables false
def kept (ss : List StD) (d : Int) (s : Nat) : Bool := decide (d < 0) || aboveB ss d.toNat s
theorem kept_none (ss : List StD) (s : Nat) : kept ss (-1) s = true := by simp [kept]
theorem kept_at (ss : List StD) (d s : Nat) : kept ss (d : Int) s = aboveB ss d s := by
 have h : ¬ ((d : Int) < 0) := by omega
 simp [kept, h]
theorem kept_nil (ss : List StD) (k : Nat) : (up ss k).filter (kept ss (-1)) = below ss k (-1) := by
 rw [below_nil]
 exact List.filter_eq_self.mpr fun s _ => kept_none ss s
theorem kept_below {ss : List StD} (T : TreeOK ss) {d : Nat} : ∀ n k, k < n → k < ss.length → d ∈ up ss k → (up ss k).filter (kept ss (d : Int)) = below ss k d := by
 intro n
 induction n with
 | zero => intro k h; omega
 | succ n ih =>
  intro k hkn hk hd
  by_cases e : k = d
  ·subst e
   have h1 : (up ss k).filter (kept ss (k : Int)) = [] := by
    refine List.filter_eq_nil_iff.mpr fun s hs => ?_
    have h2 := up_le T k hk s hs
    rw [kept_at]
    simp only [aboveB, decide_eq_true_eq]
    intro h3
    have := up_tail_lt T (show s < ss.length by omega) h3
    omega
   rw [h1]
   unfold below
   rw [up_form T hk, List.takeWhile_cons_of_neg (by simp)]
  ·have h0 : 0 < k := by
    rcases Nat.eq_zero_or_pos k with h | h
    ·subst h; rw [up_zero] at hd; simp at hd; omega
    ·exact h
   have hp := up_pos T h0 hk
   have ht := up_tail T h0 hk
   have hd2 : d ∈ up ss (par ss k).toNat := by rw [hp] at hd; simp at hd; exact hd.resolve_left (fun h => e h.symm)
   have hlt : (par ss k).toNat < k := up_tail_lt T hk (by
    rw [ht]
    have : ∀ m, m ∈ up ss m := fun m => by simp only [up, upF]; split <;> simp_all
    exact this _)
   have hk1 : kept ss (d : Int) k = true := by rw [kept_at]; simp only [aboveB, decide_eq_true_eq]; rw [ht]; exact hd2
   have hb : below ss k d = k :: below ss (par ss k).toNat d := by
    unfold below
    rw [hp, List.takeWhile_cons_of_pos (by simp; omega)]
   rw [hb, hp, List.filter_cons_of_pos hk1, ih _ (by omega) (by omega) hd2]
theorem kept_exits {ss : List StD} (T : TreeOK ss) {leaf f t : Nat} (hl : leaf < ss.length) (hf : f ∈ up ss leaf) : (up ss leaf).filter (kept ss (dom ss f t)) = exitsOf ss leaf f t := by
 unfold exitsOf
 rcases dom_cases ss f t with h | ⟨m, h, h2, h3, h4⟩
 ·rw [h]; exact kept_nil ss leaf
 ·rw [h]; exact kept_below T (leaf + 1) leaf (by omega) hl (up_sub T leaf hl f hf m (List.mem_of_mem_tail h3))
theorem kept_enters {ss : List StD} (T : TreeOK ss) {f t : Nat} (ht : t < ss.length) : ((up ss t).filter (kept ss (dom ss f t))).reverse ++ down ss t = entersOf ss f t := by
 unfold entersOf
 rcases dom_cases ss f t with h | ⟨m, h, h2, h3, h4⟩
 ·rw [h, kept_nil]
 ·rw [h, kept_below T (t + 1) t (by omega) ht (List.mem_of_mem_tail h4)]
end Go.Proofs.YtiimkhepplkocaaGreat
namespace Go.Proofs.YtiimkhepplkocaaGreat
open Go.RowKit Go.Sort
set_option linter.unusedVariables false
set_option maxRecDepth 100000 in
set_option maxHeartbeats 8000000 in
theorem l3Path_in (so tq : Option Addr) (n sc tn tc : Nat) (ts : List TrD) (htn : tn ≤ 500) (leaf : Nat) (j : Nat) (hj : j < tn) (hneg : (ts.getD j tr0).target < 0) (w : World) (ht : TransOf w tq tn ts) :
  Calls Tryz.prog 51 #[.agg #[.slice so n sc, .slice tq tn tc], .int .i64 leaf, .int .i64 j] w fun e w' => ∃ ge gn, e = .returned (.tuple #[.slice (some ⟨ge, 0, none⟩) 0 0, .slice (some ⟨gn, 0, none⟩) 0 0, .int .i64 leaf]) ∧ OwnI w w' (.slice (some ⟨ge, 0, none⟩) 0 0) [] ∧ OwnI w w' (.slice (some ⟨gn, 0, none⟩) 0 0) [] ∧ ge ≠ gn ∧ Below w.heap.size w w' := by
 obtain ⟨tb, off, rfl, htl, htc⟩ := ht.2 (by omega)
 obtain ⟨x1, x2, ⟨co, cn, cc, x3, _, _⟩, x4, ⟨do_, dn, dc, x5, _, _⟩⟩ := htc j hj
 obtain ⟨td, htd⟩ : ∃ td, td = ts.getD j tr0 := ⟨_, rfl⟩
 rw [← htd] at x1 x2 x4 hneg
 obtain ⟨tg, htg⟩ : ∃ x, x = td.target := ⟨_, rfl⟩
 rw [← htg] at x4 hneg
 have ji : (j : Int) < (tn : Int) := by omega
 have FR : ∀ i, ((w.alloc (.cells #[.slice so n sc, .slice (some ⟨tb, off, none⟩) tn tc] 36)).cell? ⟨tb, i, none⟩) = w.cell? ⟨tb, i, none⟩ := fun i => (below1 _ _).cell (p := ⟨tb, i, none⟩) htl
 have y1 := (FR _).trans x1
 have y2 := (FR _).trans x2
 have y3 := (FR _).trans x3
 have y4 := (FR _).trans x4
 have y5 := (FR _).trans x5
 clear ht htc x1 x2 x3 x4 x5 FR htd htg
 go_enter Tryz.func51, Tryz.ntmps51
 go_wp2_with fail
 refine bodyPost_ret (v := .tuple #[.slice (some ⟨w.heap.size + 1 + 1, 0, none⟩) 0 0, .slice (some ⟨w.heap.size + 1 + 1 + 1, 0, none⟩) 0 0, .int .i64 (leaf : Int)]) (by simp [results, Tryz.results51, go_sem]) rfl ?_
 have h3 : ∀ a b c d : Obj, ((((w.alloc a).alloc b).alloc c).alloc d).heap[w.heap.size + 1 + 1]? = some c := third w
 have h4 : ∀ a b c d : Obj, ((((w.alloc a).alloc b).alloc c).alloc d).heap[w.heap.size + 1 + 1 + 1]? = some d := fourth w
 exact ⟨_, _, rfl, own_none (h3 _ _ _ _) (by omega), own_none (h4 _ _ _ _) (by omega), by omega, ((below2 w _ _).alloc (by simp; omega) _).alloc (by simp; omega) _⟩
end Go.Proofs.YtiimkhepplkocaaGreat
namespace Go.Proofs.YtiimkhepplkocaaGreat
open Go.RowKit Go.Sort
set_option linter.unusedVariables false
attribute [local go_sem ↓] Go.wp_at_zero Go.wp_at_succ
structure Pd (w : World) (bx tx : Array Value) (g0 : Nat) (ups : List Nat) (lv : Value) (l : List Nat) (X : World) : Prop where
 cd : Cd w bx g0 ups lv l X
 t : X.heap[w.heap.size + 1]? = some (.cells tx 60 (0, 0))
theorem Pd.below {w : World} {bx tx : Array Value} {g0 : Nat} {ups : List Nat} {lv : Value} {l : List Nat} {X Y : World} (h : Pd w bx tx g0 ups lv l X) (hb : Below X.heap.size X Y) : Pd w bx tx g0 ups lv l Y :=
 ⟨h.cd.below hb, block_below h.t hb⟩
theorem Pd.grown {w : World} {bx tx : Array Value} {g0 : Nat} {ups : List Nat} {lv : Value} {l l' : List Nat} {X Y : World} {g cap : Nat} (h : Pd w bx tx g0 ups lv l X) (hg : X.grownBy Y lv.ownBlock) (ho : Y.ownsRow w.heap.size 3 1 (.slice (some ⟨g, 0, none⟩) l'.length cap) l'.length (ints l')) (hat : lv.ownBlock = some g ∨ g = X.heap.size) : Pd w bx tx g0 ups (.slice (some ⟨g, 0, none⟩) l'.length cap) l' Y :=
 ⟨h.cd.grown hg ho hat, (hg.block _ (lt_of_block h.t) (fun e => own_far h.cd.o (by decide) h.t e.symm)).trans h.t⟩
structure Pe (w : World) (bx tx : Array Value) (g0 : Nat) (ups : List Nat) (ge ce BB : Nat) (xs : List Nat) (lv : Value) (l : List Nat) (X : World) : Prop where
 pd : Pd w bx tx g0 ups lv l X
 ex : X.ownsRow w.heap.size 3 1 (.slice (some ⟨ge, 0, none⟩) xs.length ce) xs.length (ints xs)
 o2 : X.ownsRow BB 3 1 lv l.length (ints l)
 b2 : BB ≤ X.heap.size
theorem Pe.below {w : World} {bx tx : Array Value} {g0 ge ce BB : Nat} {ups xs : List Nat} {lv : Value} {l : List Nat} {X Y : World} (h : Pe w bx tx g0 ups ge ce BB xs lv l X) (hb : Below X.heap.size X Y) : Pe w bx tx g0 ups ge ce BB xs lv l Y :=
 ⟨h.pd.below hb, ownsRow_below h.ex hb, ownsRow_below h.o2 hb, Nat.le_trans h.b2 hb.size⟩
theorem own_base {X : World} {B B' n : Nat} {v : Value} {xs : List Value} (h : X.ownsRow B' 3 1 v n xs) (hB : B ≤ B') : X.ownsRow B 3 1 v n xs :=
 ⟨h.1, h.2.imp id fun ⟨g, c, cur, e, hb, r⟩ => ⟨g, c, cur, e, Nat.le_trans hB hb, r⟩⟩
theorem Pe.fresh {w : World} {bx tx : Array Value} {g0 ge ce BB : Nat} {ups xs : List Nat} {lv : Value} {l l' : List Nat} {X Y : World} {g cap : Nat} (h : Pe w bx tx g0 ups ge ce BB xs lv l X) (hb : Below X.heap.size X Y) (ho : Y.ownsRow X.heap.size 3 1 (.slice (some ⟨g, 0, none⟩) l'.length cap) l'.length (ints l')) : Pe w bx tx g0 ups ge ce BB xs (.slice (some ⟨g, 0, none⟩) l'.length cap) l' Y := by
 have hY := h.below hb
 have hg := (ho.lt g rfl).1
 have h1 := h.pd.cd.lt
 have h2 := (h.ex.lt ge rfl).2
 refine ⟨⟨⟨hY.pd.cd.bel, hY.pd.cd.q, hY.pd.cd.u, hY.pd.cd.lt, own_base ho h.pd.cd.bel.size, ?_, by simp⟩, hY.pd.t⟩, hY.ex, own_base ho h.b2, hY.b2⟩
 simp [Value.ownBlock]; omega
set_option maxRecDepth 100000 in
set_option maxHeartbeats 8000000 in
theorem l3Path_to (so tq : Option Addr) (n sc tn tc : Nat) (ss : List StD) (ts : List TrD) (G : GoodT ss tn) (leaf : Nat) (hl : leaf < n) (j : Nat) (hj : j < tn) (f t : Nat) (hf : f < n) (ht0 : t < n) (hsrc : (ts.getD j tr0).src = f) (htgt : (ts.getD j tr0).target = t) (hin : f ∈ up ss leaf) (w : World) (hs : StatesOf w so n ss) (ht : TransOf w tq tn ts) :
  Calls Tryz.prog 51 #[.agg #[.slice so n sc, .slice tq tn tc], .int .i64 leaf, .int .i64 j] w fun e w' => ∃ ge ce gn cn, e = .returned (.tuple #[.slice (some ⟨ge, 0, none⟩) (exitsOf ss leaf f t).length ce, .slice (some ⟨gn, 0, none⟩) (entersOf ss f t).length cn, .int .i64 (nextOf ss f t : Nat)]) ∧ OwnI w w' (.slice (some ⟨ge, 0, none⟩) (exitsOf ss leaf f t).length ce) (exitsOf ss leaf f t) ∧ OwnI w w' (.slice (some ⟨gn, 0, none⟩) (entersOf ss f t).length cn) (entersOf ss f t) ∧ ge ≠ gn ∧ Below w.heap.size w w' := by
 obtain ⟨i0, hi0, hz0, hz1, hz2⟩ := info_parts Tryz.infoInt0
 have hn : n ≤ 200 := by have := G.n2; have := hs.1; omega
 have htn := G.tn
 have T := G.tree
 have hls : leaf < ss.length := by rw [hs.1]; exact hl
 have hts : t < ss.length := by rw [hs.1]; exact ht0
 have KX := hid (kept_exits T (t := t) hls hin)
 have KE := hid (kept_enters T (f := f) hts)
 have HS : Hid (∀ w', Below w.heap.size w w' → StatesOf w' so n ss) := fun w' h => hs.below h
 obtain ⟨tb, off, rfl, htl, htc⟩ := ht.2 (by omega)
 obtain ⟨x1, x2, ⟨co, cn, cc, x3, _, _⟩, x4, ⟨do_, dn, dc, x5, _, _⟩⟩ := htc j hj
 obtain ⟨td, htd⟩ : ∃ td, td = ts.getD j tr0 := ⟨_, rfl⟩
 rw [← htd] at x1 x2 x4 hsrc htgt
 rw [hsrc] at x1
 rw [htgt] at x4
 have ji : (j : Int) < (tn : Int) := by omega
 have FR : ∀ i, ((w.alloc (.cells #[.slice so n sc, .slice (some ⟨tb, off, none⟩) tn tc] 36)).cell? ⟨tb, i, none⟩) = w.cell? ⟨tb, i, none⟩ := fun i => (below1 _ _).cell (p := ⟨tb, i, none⟩) htl
 have y1 := (FR _).trans x1
 have y2 := (FR _).trans x2
 have y3 := (FR _).trans x3
 have y4 := (FR _).trans x4
 have y5 := (FR _).trans x5
 have CD : Hid (∀ w', Below w.heap.size w w' → Calls Tryz.prog 110 #[.agg #[.slice so n sc, .slice (some ⟨tb, off, none⟩) tn tc], .int .i64 f, .int .i64 t] w' fun e w'' => e = .returned (.int .i64 (dom ss f t)) ∧ Below w'.heap.size w' w'') := hid (fun w' h => l2Domain_any so (some ⟨tb, off, none⟩) n sc tn tc ss T hn f t hf ht0 w' (HS.out w' h))
 have CU : Hid (∀ k, k < n → ∀ w', Below w.heap.size w w' → Calls Tryz.prog 109 #[.agg #[.slice so n sc, .slice (some ⟨tb, off, none⟩) tn tc], .int .i64 k] w' fun e w'' => ∃ g cap, e = .returned (.slice (some ⟨g, 0, none⟩) (up ss k).length cap) ∧ OwnI w' w'' (.slice (some ⟨g, 0, none⟩) (up ss k).length cap) (up ss k) ∧ (k = 0 → cap = 1) ∧ Below w'.heap.size w' w'') := hid (fun k hk w' h => l2Up_any so (some ⟨tb, off, none⟩) n sc tn tc ss T hn k hk w' (HS.out w' h))
 have nt : ¬ ((t : Int) < 0) := by omega
 clear ht htc x1 x2 x3 x4 x5 FR htd hs
 go_enter Tryz.func51, Tryz.ntmps51
 go_wp2_with (first
  | (go_at_call 110; refine (CD.out _ (below2 _ _ _)).mono ?_; rintro e w1 ⟨rfl, hb⟩; have B1 := hid ((below2 _ _ _).trans (hb.mono (by simp; omega))); have Q1 := hid (block_below (new21 w _ _) hb); have T1 := hid (block_below (new22 w _ _) hb); clear hb; obtain ⟨q0, q1, _, _⟩ := pair_cells (block_below Q1.out (below1 w1 (.cells #[] 3))))
  | (go_at_call 109; refine (CU.out leaf hl _ (B1.out.trans ((below1 _ _).mono B1.out.size))).mono ?_; rintro e w2 ⟨g0, c0, rfl, ho, _, hb⟩; have HO2 := hid ho; have HB2 := hid hb; clear ho hb))
 have GE := hid (World.ownsRow.lt HO2.out g0 rfl)
 have UC := hid (ownI_cells HO2.out rfl)
 have P2 : Hid (Pd w #[.slice so n sc, .slice (some ⟨tb, off, none⟩) tn tc] #[.int .i64 f, .int .i64 td.sig, .slice co cn cc, .int .i64 t, .slice do_ dn dc] g0 (up ss leaf) (.slice (some ⟨w1.heap.size, 0, none⟩) 0 0) [] w2) := hid (by
  have hg := GE.out
  simp at hg
  have b2 := (below1 w1 (.cells #[] 3)).trans (HB2.out.mono (by simp))
  exact ⟨⟨B1.out.trans (b2.mono B1.out.size), block_below Q1.out b2, fun j hj => UC.out.2.2 j hj, hg.2, by simpa [ints] using own_none (block_below (heap_alloc_new w1 _) HB2.out) B1.out.size, by simp [Value.ownBlock]; omega, by simp⟩, block_below T1.out b2⟩)
 have UL := hid (up_len T leaf hls)
 have ULT : Hid (∀ x, x ∈ up ss leaf → x < n) := hid (fun x hx => by have := up_le T leaf hls x hx; omega)
 have CA : Hid (∀ m s, s < n → ∀ w', Below w.heap.size w w' → Calls Tryz.prog 111 #[.agg #[.slice so n sc, .slice (some ⟨tb, off, none⟩) tn tc], .int .i64 (m : Nat), .int .i64 (s : Nat)] w' fun e w'' => e = .returned (.bool (aboveB ss m s)) ∧ Below w'.heap.size w' w'') := hid (fun m s hs w' h => l2Above_any so (some ⟨tb, off, none⟩) n sc tn tc ss T hn m s hs w' (HS.out w' h))
 have DC := hid (dom_cases ss f t)
 obtain ⟨dv, hdv⟩ : ∃ d, d = dom ss f t := ⟨_, rfl⟩
 rw [← hdv] at KX KE DC ⊢
 obtain ⟨ups, hups⟩ : ∃ l, l = up ss leaf := ⟨_, rfl⟩
 rw [← hups] at P2 UL ULT KX ⊢
 obtain ⟨nu, hnu⟩ : ∃ n, n = ups.length := ⟨_, rfl⟩
 rw [← hnu] at UL ⊢
 have NU := hid hnu
 have n2 : nu ≤ 200 := by have := UL.out; omega
 clear q0 q1 y1 y2 y3 y4 y5 HO2 HB2 GE UC hnu hups hdv
 go_loopg [11, 39] nu (fun mm lv i X => ∃ a : Nat, a ≤ nu ∧ mm = nu - a ∧ i = .int .i64 a ∧ Pd w #[.slice so n sc, .slice (some ⟨tb, off, none⟩) tn tc] #[.int .i64 f, .int .i64 td.sig, .slice co cn cc, .int .i64 t, .slice do_ dn dc] g0 ups lv ((ups.take a).filter (kept ss dv)) X)
 case atStart => exact ⟨0, by omega, by omega, rfl, by simpa using P2.out⟩
 case round =>
  obtain ⟨a, ha, rfl, rfl, hC⟩ := hrel
  by_cases hlt : a < nu
  ·have cu := hC.cd.u a (by rw [← NU.out]; exact hlt)
   obtain ⟨s, hsv⟩ : ∃ s, s = ups.getD a 0 := ⟨_, rfl⟩
   rw [← hsv] at cu
   have hsn : s < n := ULT.out s (by rw [hsv, List.getD_eq_getElem?_getD, List.getElem?_eq_getElem (by have := NU.out; omega)]; simp)
   have TK : Hid ((ups.take (a + 1)).filter (kept ss dv) = (ups.take a).filter (kept ss dv) ++ (if kept ss dv s then [s] else [])) := hid (by
    have h1 : ups.take (a + 1) = ups.take a ++ [s] := by
     rw [hsv, List.take_add_one]
     have := NU.out
     rw [List.getD_eq_getElem?_getD, List.getElem?_eq_getElem (by omega)]; rfl
    rw [h1, List.filter_append]
    by_cases h : kept ss dv s <;> simp [h])
   obtain ⟨q0, q1, _, _⟩ := pair_cells hC.cd.q
   obtain ⟨ao, cap, hv⟩ := slice_of hC.cd.o
   have DD := hid hC
   subst hv
   have ai : (a : Int) < (nu : Int) := by omega
   have L1 : Hid (((ups.take a).filter (kept ss dv)).length ≤ 200) := hid (by
    have h1 := List.length_filter_le (kept ss dv) (ups.take a)
    have h2 : (ups.take a).length ≤ 200 := by simp; omega
    omega)
   clear hC hsv
   rcases DC.out with hd | ⟨m, hd, _, _, _⟩
   ·subst hd
    have EX : Hid ((ups.take (a + 1)).filter (kept ss (-1)) = (ups.take a).filter (kept ss (-1)) ++ [s]) := hid (by rw [TK.out, if_pos (kept_none ss s)])
    clear TK
    go_wp2_with (first | fail | (at_builtin; refine wpList_append_lies _ rfl (.tmp 51) (.tmp 53) 30 rfl w.heap.size 3 i0 _ 1 8 Tryz.underlying30 hi0 hz0 hz1 hz2 rfl (by decide) _ _ _ rfl (DD.out.below (below1 _ _)).cd.o ⟨wr.heap.size, 0, none⟩ 1 1 [.int .i64 (s : Int)] rfl rfl (news_one _ _ _) (by intro u hu; simp at hu; subst hu; rfl) (by omega) (by have := L1.out; unfold maxLen; omega) (by have := L1.out; omega) (by have := DD.out.cd.bel.size; simp; omega) (wr.heap.size + 1) (by simp) ?_))
    intro g cap' w5 hown hgrow hat _
    have D2 := hid ((DD.out.below (below1 wr _)).grown (l' := (ups.take (a + 1)).filter (kept ss (-1))) hgrow (by rw [EX.out]; simpa [ints, Nat.add_assoc] using hown) (by simpa using hat))
    have LE : Hid (((ups.take a).filter (kept ss (-1))).length + 1 = ((ups.take (a + 1)).filter (kept ss (-1))).length) := hid (by rw [EX.out]; simp)
    clear hown hgrow hat
    go_wp2
    go_roundg (nu - (a + 1))
    case measure => omega
    case rel => exact ⟨a + 1, by omega, rfl, by simp, by rw [LE.out]; exact D2.out⟩
   ·subst hd
    have nm : ¬ ((m : Int) < 0) := by omega
    have KM := hid (kept_at ss m s)
    by_cases hk : aboveB ss m s = true
    ·have AB := hid hk
     have EX : Hid ((ups.take (a + 1)).filter (kept ss m) = (ups.take a).filter (kept ss m) ++ [s]) := hid (by rw [TK.out, if_pos (by rw [KM.out]; exact hk)])
     clear TK KM hk
     go_wp2_with (first | (go_at_call 111; refine (CA.out m s hsn _ DD.out.cd.bel).mono ?_; rintro e w4 ⟨he, hb⟩; rw [AB.out] at he; subst he; have D4 := hid (DD.out.below hb); clear hb) | (at_builtin; refine wpList_append_lies _ rfl (.tmp 51) (.tmp 53) 30 rfl w.heap.size 3 i0 _ 1 8 Tryz.underlying30 hi0 hz0 hz1 hz2 rfl (by decide) _ _ _ rfl (D4.out.below (below1 _ _)).cd.o ⟨w4.heap.size, 0, none⟩ 1 1 [.int .i64 (s : Int)] rfl rfl (news_one _ _ _) (by intro u hu; simp at hu; subst hu; rfl) (by omega) (by have := L1.out; unfold maxLen; omega) (by have := L1.out; omega) (by have := D4.out.cd.bel.size; simp; omega) (w4.heap.size + 1) (by simp) ?_))
     intro g cap' w5 hown hgrow hat _
     have D2 := hid ((D4.out.below (below1 w4 _)).grown (l' := (ups.take (a + 1)).filter (kept ss m)) hgrow (by rw [EX.out]; simpa [ints, Nat.add_assoc] using hown) (by simpa using hat))
     have LE : Hid (((ups.take a).filter (kept ss m)).length + 1 = ((ups.take (a + 1)).filter (kept ss m)).length) := hid (by rw [EX.out]; simp)
     clear hown hgrow hat
     go_wp2
     go_roundg (nu - (a + 1))
     case measure => omega
     case rel => exact ⟨a + 1, by omega, rfl, by simp, by rw [LE.out]; exact D2.out⟩
    ·have AB : Hid (aboveB ss m s = false) := hid (by simpa using hk)
     have EX : Hid ((ups.take (a + 1)).filter (kept ss m) = (ups.take a).filter (kept ss m)) := hid (by rw [TK.out, if_neg (by rw [KM.out]; exact hk), List.append_nil])
     clear TK KM hk
     go_wp2_with (go_at_call 111; refine (CA.out m s hsn _ DD.out.cd.bel).mono ?_; rintro e w4 ⟨he, hb⟩; rw [AB.out] at he; subst he; have D4 := hid (DD.out.below hb); clear hb)
     go_roundg (nu - (a + 1))
     case measure => omega
     case rel => exact ⟨a + 1, by omega, rfl, by simp, by rw [EX.out]; exact D4.out⟩
  ·obtain rfl : a = nu := by omega
   have hT : ups.take a = ups := by rw [NU.out]; exact List.take_length
   rw [hT, KX.out] at hC
   rcases hC.cd.o.2 with ⟨h1, _⟩ | ⟨ge, ce, cur, rfl, _⟩
   ·exact absurd h1 hC.cd.nn
   ·have CC := hid hC
    clear hC
    obtain ⟨q0, q1, _, _⟩ := pair_cells (block_below CC.out.cd.q (below1 wr (.cells #[] 3)))
    have t3 : (wr.alloc (.cells #[] 3)).cell? ⟨w.heap.size + 1, 3, none⟩ = some (.int .i64 (t : Int)) := by
     have h := block_below CC.out.t (below1 wr (.cells #[] 3))
     simp [World.cell?, h]
    have BW := hid (CC.out.cd.bel.trans ((below1 wr (.cells #[] 3)).mono CC.out.cd.bel.size))
    go_wp2_with (go_at_call 109; refine (CU.out t ht0 _ BW.out).mono ?_; rintro e w3 ⟨g1, c1, rfl, ho, _, hb⟩; have HO3 := hid ho; have HB3 := hid hb; clear ho hb)
    obtain ⟨BB, hBB⟩ : ∃ b, b = wr.heap.size := ⟨_, rfl⟩
    have geB : ge < BB := by rw [hBB]; exact (CC.out.cd.o.lt ge rfl).2
    have wB : w.heap.size ≤ BB := by rw [hBB]; exact CC.out.cd.bel.size
    have GE := hid (World.ownsRow.lt HO3.out g1 rfl)
    have UC := hid (ownI_cells HO3.out rfl)
    have P3 : Hid (Pe w #[.slice so n sc, .slice (some ⟨tb, off, none⟩) tn tc] #[.int .i64 f, .int .i64 td.sig, .slice co cn cc, .int .i64 t, .slice do_ dn dc] g1 (up ss t) ge ce BB (exitsOf ss leaf f t) (.slice (some ⟨wr.heap.size, 0, none⟩) 0 0) [] w3) := hid (by
     have hg := GE.out
     simp at hg
     have b2 := (below1 wr (.cells #[] 3)).trans (HB3.out.mono (by simp))
     have h9 := CC.out.below b2
     have h8 := (CC.out.cd.o.lt ge rfl).2
     exact ⟨⟨⟨h9.cd.bel, h9.cd.q, fun j hj => UC.out.2.2 j hj, hg.2, by simpa [ints] using own_none (block_below (heap_alloc_new wr _) HB3.out) CC.out.cd.bel.size, by simp [Value.ownBlock]; omega, by simp⟩, h9.t⟩, h9.cd.o, by simpa [ints] using own_none (block_below (heap_alloc_new wr _) HB3.out) (Nat.le_of_eq hBB), by rw [hBB]; exact b2.size⟩)
    have UL2 := hid (up_len T t hts)
    have ULT2 : Hid (∀ x, x ∈ up ss t → x < n) := hid (fun x hx => by have := up_le T t hts x hx; omega)
    obtain ⟨up2, hup2⟩ : ∃ l, l = up ss t := ⟨_, rfl⟩
    rw [← hup2] at P3 UL2 ULT2 KE ⊢
    obtain ⟨nv, hnv⟩ : ∃ n, n = up2.length := ⟨_, rfl⟩
    rw [← hnv] at UL2 ⊢
    have NV := hid hnv
    have n3 : nv ≤ 200 := by have := UL2.out; omega
    clear q0 q1 t3 HO3 HB3 GE UC hnv hup2 BW CC hBB
    go_loopg [14, 62] nv (fun mm lv i X => ∃ a2 : Nat, a2 ≤ nv ∧ mm = nv - a2 ∧ i = .int .i64 a2 ∧ Pe w #[.slice so n sc, .slice (some ⟨tb, off, none⟩) tn tc] #[.int .i64 f, .int .i64 td.sig, .slice co cn cc, .int .i64 t, .slice do_ dn dc] g1 up2 ge ce BB (exitsOf ss leaf f t) lv ((up2.take a2).filter (kept ss dv)).reverse X)
    case atStart => exact ⟨0, by omega, by omega, rfl, by simpa using P3.out⟩
    case round =>
     obtain ⟨a2, ha2, rfl, rfl, hC⟩ := hrel
     by_cases hlt2 : a2 < nv
     ·have cu := hC.pd.cd.u a2 (by rw [← NV.out]; exact hlt2)
      obtain ⟨s, hsv⟩ : ∃ s, s = up2.getD a2 0 := ⟨_, rfl⟩
      rw [← hsv] at cu
      have hsn : s < n := ULT2.out s (by rw [hsv, List.getD_eq_getElem?_getD, List.getElem?_eq_getElem (by have := NV.out; omega)]; simp)
      have TK : Hid ((up2.take (a2 + 1)).filter (kept ss dv) = (up2.take a2).filter (kept ss dv) ++ (if kept ss dv s then [s] else [])) := hid (by
       have h1 : up2.take (a2 + 1) = up2.take a2 ++ [s] := by
        rw [hsv, List.take_add_one]
        have := NV.out
        rw [List.getD_eq_getElem?_getD, List.getElem?_eq_getElem (by omega)]; rfl
       rw [h1, List.filter_append]
       by_cases h : kept ss dv s <;> simp [h])
      obtain ⟨q0, q1, _, _⟩ := pair_cells hC.pd.cd.q
      rcases hC.pd.cd.o.2 with ⟨h1, _⟩ | ⟨gc, cap, cur, hv, _⟩
      ·exact absurd h1 hC.pd.cd.nn
      have DD := hid hC
      subst hv
      have ai2 : (a2 : Int) < (nv : Int) := by omega
      have L1 : Hid (((up2.take a2).filter (kept ss dv)).reverse.length ≤ 200) := hid (by
       have h1 := List.length_filter_le (kept ss dv) (up2.take a2)
       have h2 : (up2.take a2).length ≤ 200 := by simp; omega
       rw [List.length_reverse]
       omega)
      clear hC hsv
      rcases DC.out with hd | ⟨m, hd, _, _, _⟩
      ·subst hd
       have EX : Hid ((up2.take (a2 + 1)).filter (kept ss (-1)) = (up2.take a2).filter (kept ss (-1)) ++ [s]) := hid (by rw [TK.out, if_pos (kept_none ss s)])
       clear TK
       go_wp2_with (first | fail | (at_builtin; refine wpList_append_own _ rfl (.tmp 75) (.tmp 76) 30 rfl wr.heap.size 3 i0 _ 1 8 Tryz.underlying30 hi0 hz0 hz1 hz2 rfl (by decide) (.slice (some ⟨wr.heap.size, 0, none⟩) 1 1) 1 [.int .i64 (s : Int)] rfl (own_lit wr wr s (Nat.le_refl _)) ⟨gc, 0, none⟩ ((up2.take a2).filter (kept ss (-1))).reverse.length cap (ints ((up2.take a2).filter (kept ss (-1))).reverse) (by simp; rfl) (by rw [ints_len]; omega) (World.ownsRow.cells (DD.out.below (below1 _ _)).pd.cd.o rfl) (ints_one _) (by have := L1.out; unfold maxLen; omega) (by have := L1.out; omega) (by simp) ?_))
       intro v5 w5 hown hgrow _
       obtain ⟨g5, cap5, rfl, _, _⟩ := World.ownsRow.form hown (by omega)
       have D2 : Hid (Pe w #[.slice so n sc, .slice (some ⟨tb, off, none⟩) tn tc] #[.int .i64 f, .int .i64 td.sig, .slice co cn cc, .int .i64 t, .slice do_ dn dc] g1 up2 ge ce BB (exitsOf ss leaf f t) (.slice (some ⟨g5, 0, none⟩) (1 + ((up2.take a2).filter (kept ss (-1))).reverse.length) cap5) ((up2.take (a2 + 1)).filter (kept ss (-1))).reverse w5) := hid (by
        have hl5 : ((up2.take (a2 + 1)).filter (kept ss (-1))).reverse.length = 1 + ((up2.take a2).filter (kept ss (-1))).reverse.length := by rw [EX.out]; simp; omega
        rw [← hl5]
        refine DD.out.fresh ((below1 wr (.cells #[.int .i64 (s : Int)] 3)).grown hgrow (by simp) (fun kk e => by simp [Value.ownBlock] at e; omega)) ?_
        rw [hl5, EX.out]
        simpa [ints] using hown)
       clear hown hgrow
       go_wp2
       go_roundg (nv - (a2 + 1))
       case measure => omega
       case rel => exact ⟨a2 + 1, by omega, rfl, by simp, by simpa using D2.out⟩
      ·subst hd
       have nm : ¬ ((m : Int) < 0) := by omega
       have KM := hid (kept_at ss m s)
       by_cases hk : aboveB ss m s = true
       ·have AB := hid hk
        have EX : Hid ((up2.take (a2 + 1)).filter (kept ss m) = (up2.take a2).filter (kept ss m) ++ [s]) := hid (by rw [TK.out, if_pos (by rw [KM.out]; exact hk)])
        clear TK KM hk
        go_wp2_with (first | (go_at_call 111; refine (CA.out m s hsn _ DD.out.pd.cd.bel).mono ?_; rintro e w4 ⟨he, hb⟩; rw [AB.out] at he; subst he; have D4 := hid (DD.out.below hb); clear hb) | (at_builtin; refine wpList_append_own _ rfl (.tmp 75) (.tmp 76) 30 rfl w4.heap.size 3 i0 _ 1 8 Tryz.underlying30 hi0 hz0 hz1 hz2 rfl (by decide) (.slice (some ⟨w4.heap.size, 0, none⟩) 1 1) 1 [.int .i64 (s : Int)] rfl (own_lit w4 w4 s (Nat.le_refl _)) ⟨gc, 0, none⟩ ((up2.take a2).filter (kept ss (m : Int))).reverse.length cap (ints ((up2.take a2).filter (kept ss (m : Int))).reverse) (by simp; rfl) (by rw [ints_len]; omega) (World.ownsRow.cells (D4.out.below (below1 _ _)).pd.cd.o rfl) (ints_one _) (by have := L1.out; unfold maxLen; omega) (by have := L1.out; omega) (by simp) ?_))
        intro v5 w5 hown hgrow _
        obtain ⟨g5, cap5, rfl, _, _⟩ := World.ownsRow.form hown (by omega)
        have D2 : Hid (Pe w #[.slice so n sc, .slice (some ⟨tb, off, none⟩) tn tc] #[.int .i64 f, .int .i64 td.sig, .slice co cn cc, .int .i64 t, .slice do_ dn dc] g1 up2 ge ce BB (exitsOf ss leaf f t) (.slice (some ⟨g5, 0, none⟩) (1 + ((up2.take a2).filter (kept ss (m : Int))).reverse.length) cap5) ((up2.take (a2 + 1)).filter (kept ss (m : Int))).reverse w5) := hid (by
         have hl5 : ((up2.take (a2 + 1)).filter (kept ss (m : Int))).reverse.length = 1 + ((up2.take a2).filter (kept ss (m : Int))).reverse.length := by rw [EX.out]; simp; omega
         rw [← hl5]
         refine D4.out.fresh ((below1 w4 (.cells #[.int .i64 (s : Int)] 3)).grown hgrow (by simp) (fun kk e => by simp [Value.ownBlock] at e; omega)) ?_
         rw [hl5, EX.out]
         simpa [ints] using hown)
        clear hown hgrow
        go_wp2
        go_roundg (nv - (a2 + 1))
        case measure => omega
        case rel => exact ⟨a2 + 1, by omega, rfl, by simp, by simpa using D2.out⟩
       ·have AB : Hid (aboveB ss m s = false) := hid (by simpa using hk)
        have EX : Hid ((up2.take (a2 + 1)).filter (kept ss m) = (up2.take a2).filter (kept ss m)) := hid (by rw [TK.out, if_neg (by rw [KM.out]; exact hk), List.append_nil])
        clear TK KM hk
        go_wp2_with (go_at_call 111; refine (CA.out m s hsn _ DD.out.pd.cd.bel).mono ?_; rintro e w4 ⟨he, hb⟩; rw [AB.out] at he; subst he; have D4 := hid (DD.out.below hb); clear hb)
        go_roundg (nv - (a2 + 1))
        case measure => omega
        case rel => exact ⟨a2 + 1, by omega, rfl, by simp, by rw [EX.out]; simpa using D4.out⟩
     ·obtain rfl : a2 = nv := by omega
      have hT2 : up2.take a2 = up2 := by rw [NV.out]; exact List.take_length
      rw [hT2] at hC
      rcases hC.pd.cd.o.2 with ⟨h1, _⟩ | ⟨gc, cap, cur, rfl, _⟩
      ·exact absurd h1 hC.pd.cd.nn
      have DD := hid hC
      obtain ⟨q0, q1, _, _⟩ := pair_cells hC.pd.cd.q
      have t3 : wr.cell? ⟨w.heap.size + 1, 3, none⟩ = some (.int .i64 (t : Int)) := by
       have h := hC.pd.t
       simp [World.cell?, h]
      have CW := hid (l2Down_any so (some ⟨tb, off, none⟩) n sc tn tc ss G (n - t) t ht0 rfl wr (HS.out wr hC.pd.cd.bel))
      clear hC
      have L9 : Hid ((up2.filter (kept ss dv)).reverse.length + (down ss t).length ≤ 1000) := hid (by
       have h1 := List.length_filter_le (kept ss dv) up2
       have h2 := NV.out
       have h3 := down_len G (ss.length - t) t hts (by omega)
       have h4 := G.n2
       rw [List.length_reverse]
       omega)
      have EP : Hid (0 < (up2.filter (kept ss dv)).length + (down ss t).length) := hid (by
       rw [← List.length_reverse, ← List.length_append, KE.out]
       have h1 := below_head T (f := f) hts
       unfold entersOf
       simp only [List.length_append, List.length_reverse]
       have := List.length_pos_iff.mpr h1
       omega)
      go_wp2_with (first | (go_at_call 52; refine CW.out.mono ?_; rintro e w6 ⟨g6, c6, rfl, ho, hb⟩; have HO6 := hid ho; have HB6 := hid hb; have D6 := hid (DD.out.below hb); clear ho hb) | (at_builtin; refine wpList_append_own _ rfl (.tmp 79) (.tmp 83) 30 rfl BB 3 i0 _ 1 8 Tryz.underlying30 hi0 hz0 hz1 hz2 rfl (by decide) (.slice (some ⟨gc, 0, none⟩) (up2.filter (kept ss dv)).reverse.length cap) (up2.filter (kept ss dv)).reverse.length (ints (up2.filter (kept ss dv)).reverse) (by simp; rfl) D6.out.o2 ⟨g6, 0, none⟩ (down ss t).length c6 (ints (down ss t)) rfl (by rw [ints_len]; omega) (World.ownsRow.cells HO6.out rfl) (ints_one _) (by have := L9.out; unfold maxLen; omega) (by have := L9.out; omega) D6.out.b2 ?_))
      intro v7 w7 hown hgrow _
      have PL : 0 < (up2.filter (kept ss dv)).length + (down ss t).length := EP.out
      obtain ⟨g7, cap7, rfl, _, _⟩ := World.ownsRow.form hown (by omega)
      have LN : Hid ((up2.filter (kept ss dv)).length + (down ss t).length = (entersOf ss f t).length) := hid (by rw [← KE.out]; simp)
      have O7 : Hid (w7.ownsRow BB 3 1 (.slice (some ⟨g7, 0, none⟩) (entersOf ss f t).length cap7) (entersOf ss f t).length (ints (entersOf ss f t))) := hid (by
       rw [← LN.out]
       have e1 : ints (entersOf ss f t) = ints (up2.filter (kept ss dv)).reverse ++ ints (down ss t) := by rw [← KE.out]; simp [ints]
       rw [e1]
       exact hown)
      obtain ⟨q, hq⟩ : ∃ q, (entersOf ss f t).length = q + 1 := ⟨(entersOf ss f t).length - 1, by have := LN.out; omega⟩
      rw [LN.out, hq]
      have X7 : Hid (w7.ownsRow w.heap.size 3 1 (.slice (some ⟨ge, 0, none⟩) (exitsOf ss leaf f t).length ce) (exitsOf ss leaf f t).length (ints (exitsOf ss leaf f t))) := hid (by
       have hgc := (D6.out.o2.lt gc rfl).1
       rcases D6.out.ex.2 with ⟨h1, _⟩ | ⟨g9, c9, cur9, e9, r1, r2, r3⟩
       ·simp at h1
       ·simp at e9
        obtain ⟨rfl, rfl⟩ := e9
        exact ⟨D6.out.ex.1, .inr ⟨ge, ce, cur9, rfl, r1, (hgrow.block ge (lt_of_block r2) (fun e => by simp [Value.ownBlock] at e; omega)).trans r2, r3⟩⟩)
      have B7 : Hid (Below w.heap.size w w7) := hid (D6.out.pd.cd.bel.grown hgrow D6.out.pd.cd.bel.size (fun kk e => (D6.out.pd.cd.o.lt kk e).1))
      have G7 := hid (O7.out.lt g7 rfl).1
      have c7 : w7.cell? ⟨g7, q, none⟩ = some (.int .i64 (nextOf ss f t : Nat)) := by
       have h := (ownI_cells (w := w) (own_base O7.out wB) rfl).2.2 q (by omega)
       rw [h]
       unfold nextOf
       simp only [hq]
       first | rfl | (congr 1; simp)
      have NG : Hid (ge ≠ g7) := hid (by have := (O7.out.lt g7 rfl).1; omega)
      obtain ⟨nx, hnx⟩ : ∃ x : Nat, x = nextOf ss f t := ⟨_, rfl⟩
      rw [← hnx] at c7
      have NX := hid hnx
      have qn : (q : Int) < (q : Int) + 1 := by omega
      have q0' : (0 : Int) ≤ (q : Int) := by omega
      have qI : (q : Int) ≤ 1000 := by have h1 := L9.out; have h2 := LN.out; rw [List.length_reverse] at h1; omega
      have qw : IntKind.i64.wrap (q : Int) = q := IntWalk.i64_in _ (by omega)
      have q3 : q ≤ 1000 := by omega
      have HQ := hid hq
      have c7 := cell_regrown c7
      clear hown hgrow DD D6 HO6 HB6 hq hnx q0 q1 t3
      go_wp2_with fail
      refine wp_region_quiet_below (by kernel_rfl) (by kernel_rfl) ?_
      repeat (any_goals (first | go_big_quiet_step (fail) | quiet_step (fail)))
      refine wpQuiet_nil ?_
      intro _ hw'
      obtain ⟨⟨dq, osq⟩, hw''⟩ := hw'
      subst hw''
      have BQ := hid (below_regrown w7 dq osq)
      go_wp2_with fail
      refine bodyPost_ret (v := .tuple #[.slice (some ⟨ge, 0, none⟩) (exitsOf ss leaf f t).length ce, .slice (some ⟨g7, 0, none⟩) (q + 1) cap7, .int .i64 (nx : Int)]) (by simp [results, Tryz.results51, go_sem]) rfl ?_
      refine ⟨ge, ce, g7, cap7, by rw [HQ.out, NX.out], ?_, ?_, NG.out, B7.out.trans (BQ.out.mono B7.out.size)⟩
      ·exact ownsRow_below X7.out BQ.out
      ·exact ownsRow_below (own_base O7.out wB) BQ.out
end Go.Proofs.YtiimkhepplkocaaGreat

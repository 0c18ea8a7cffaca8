import Derived.Test.YtiimkhepplkocaaGreatZ29
import Derived.Test.YtiimkhepplkocaaGreatDd
import Derived.Test.YtiimkhepplkocaaGreatV10
import Derived.Test.YtiimkhepplkocaaGreatDf
namespace Go.Proofs.YtiimkhepplkocaaGreat
open Go.RowKit Go.Sort
set_option linter.unusedVariables false
theorem conv_fix (k v : Int) (h1 : 1 ≤ k) (h7 : k ≤ 7) : conv k (conv k v) = conv k v := by
 have hk : k = 1 ∨ k = 2 ∨ k = 3 ∨ k = 4 ∨ k = 5 ∨ k = 6 ∨ k = 7 := by omega
 rcases hk with rfl | rfl | rfl | rfl | rfl | rfl | rfl
 ·simp [conv]
 ·simp [conv]
 ·simp [conv]
 ·simp [conv]
 ·simp [conv]
 ·simp [conv]
 ·simp [conv]
theorem bankD_ok {ks vs : List Int} (h : BankD ks vs) (hl : ks.length ≤ 32) : bankB ks vs = true := by
 unfold bankB
 refine decide_eq_true ⟨h.1, by rw [← h.1]; exact hl, fun i hi => ?_⟩
 obtain ⟨⟨h1, h7⟩, z, _, e⟩ := h.2 i hi
 exact ⟨by unfold kOk; exact decide_eq_true ⟨h1, h7⟩, by rw [e]; exact conv_fix _ _ h1 h7⟩
theorem bankB_set {ks vs : List Int} (h : bankB ks vs = true) (a : Nat) (x : Int) : bankB ks (vs.set a (conv (ks.getD a 0) x)) = true := by
 unfold bankB at h ⊢
 obtain ⟨h1, h2, h3⟩ := of_decide_eq_true h
 refine decide_eq_true ⟨by simpa using h1, by simpa using h2, fun i hi => ?_⟩
 obtain ⟨k1, k2⟩ := h3 i hi
 refine ⟨k1, ?_⟩
 by_cases e : i = a
 ·subst e
  have hl : i < vs.length := by omega
  have hg : (vs.set i (conv (ks.getD i 0) x)).getD i 0 = conv (ks.getD i 0) x := by simp [List.getD_eq_getElem?_getD, hl]
  rw [hg]
  unfold kOk at k1
  obtain ⟨a1, a7⟩ := of_decide_eq_true k1
  exact conv_fix _ _ a1 a7
 ·have hg : (vs.set a (conv (ks.getD a 0) x)).getD i 0 = vs.getD i 0 := by simp [List.getD_eq_getElem?_getD, List.getElem?_set_ne (Ne.symm e)]
  rw [hg]; exact k2
theorem stepS_bank {n : Int} {ks : List Int} {arg : Int} {vs : List Int} (s : StmD) (h : bankB ks vs = true) : bankB ks (stepS n ks arg vs s).1 = true := by
 unfold stepS
 split
 ·exact bankB_set h _ _
 ·exact h
theorem execS_bank {n : Int} {ks : List Int} {arg : Int} : ∀ (l : List StmD) {vs : List Int}, bankB ks vs = true → bankB ks (execS n ks arg vs l).1 = true
 | [], _, h => h
 | s :: r, _, h => execS_bank r (stepS_bank s h)
theorem last_down {ss : List StD} {tn : Nat} (g : GoodT ss tn) : ∀ d k, k < ss.length → ss.length - k = d → ini ss ((k :: down ss k).getD (down ss k).length 0) < 0 ∧ (k :: down ss k).getD (down ss k).length 0 < ss.length := by
 intro d
 induction d using Nat.strongRecOn with
 | ind d ih =>
  intro k hk hd
  by_cases h : ini ss k < 0
  ·rw [down_leaf h]; exact ⟨h, hk⟩
  ·rw [down_in g hk h]
   rcases ini_good g hk with e | ⟨h1, h2⟩
   ·omega
   ·have := ih (ss.length - (ini ss k).toNat) (by omega) _ (by omega) rfl
    simpa using this
theorem boot_leaf {ss : List StD} {ts : List TrD} {l : LimD} (hC : Chk ss ts l) : leafB ss (bootTo ss : Int) = true ∧ bootTo ss < ss.length := by
 have g := hC.good
 have h0 : 0 < ss.length := g.n1
 obtain ⟨h1, h2⟩ := last_down g _ 0 h0 rfl
 have e : bootTo ss = (0 :: down ss 0).getD (down ss 0).length 0 := by unfold bootTo bootOf; simp
 rw [e, leafB_at g h2]
 exact ⟨decide_eq_true h1, h2⟩
theorem next_leaf {ss : List StD} {tn : Nat} (g : GoodT ss tn) {f t : Nat} (ht : t < ss.length) : leafB ss (nextOf ss f t : Int) = true ∧ nextOf ss f t < ss.length := by
 obtain ⟨h1, h2⟩ := last_down g _ t ht rfl
 have hb : ∃ r, below ss t (dom ss f t) = t :: r := by
  unfold below
  rw [up_form g.tree ht, List.takeWhile_cons]
  rw [if_pos]
  ·exact ⟨_, rfl⟩
  ·rcases dom_cases ss f t with e | ⟨m, e, _, _, hm⟩
   ·rw [e]; simp
   ·have := up_tail_lt g.tree ht hm
    rw [e]; simp; omega
 obtain ⟨r, hr⟩ := hb
 have e : nextOf ss f t = (t :: down ss t).getD (down ss t).length 0 := by
  unfold nextOf entersOf
  rw [hr, List.reverse_cons, List.append_assoc, List.singleton_append]
  simp [List.getD_eq_getElem?_getD]
 rw [e, leafB_at g h2]
 exact ⟨decide_eq_true h1, h2⟩
theorem pick_mem {ss : List StD} {ts : List TrD} {l : LimD} {vs : List Int} {arg : Int} {leaf : Nat} {sg : Int} {q : Nat} (h : pickX ss ts l vs arg leaf sg = some q) : q ∈ cands ts (up ss leaf) sg := List.mem_of_find?_eq_some h
theorem step_leaf {ss : List StD} {ts : List TrD} {l : LimD} (hC : Chk ss ts l) {vs : List Int} {arg : Int} {leaf : Nat} {sg : Int} (hl : leaf < ss.length) (hf : leafB ss (leaf : Int) = true) : leafB ss (dpN ss ts leaf (pickX ss ts l vs arg leaf sg) : Int) = true ∧ dpN ss ts leaf (pickX ss ts l vs arg leaf sg) < ss.length := by
 cases hp : pickX ss ts l vs arg leaf sg with
 | none => exact ⟨hf, hl⟩
 | some q =>
  have W := way_of hC hl (pick_mem hp)
  show leafB ss (nxX ss leaf (ts.getD q tr0) : Int) = true ∧ _
  unfold dpN
  simp only
  unfold nxX
  have ht := hC.tgt q W.lt
  split
  ·exact ⟨hf, hl⟩
  ·exact next_leaf hC.good (by omega)
theorem step_bank {ss : List StD} {ts : List TrD} {l : LimD} {ks vs : List Int} {arg : Int} {leaf : Nat} {p : Option Nat} (h : bankB ks vs = true) : bankB ks (dpX ss ts l ks vs arg leaf p).1 = true := by
 cases p with
 | none => exact h
 | some q => exact execS_bank _ h
theorem evalT_step {vs : List Int} {arg vars op val : Int} {st : List Tree} {p : Tree × List Tree} (hx : ∀ i, I64 (vs.getD i 0)) (ha : I64 arg) (hs : ∀ u, u ∈ st → I64 (evalT vs arg u)) (h : stepT vars op val st = some p) : ∀ u, u ∈ p.1 :: p.2 → I64 (evalT vs arg u) := by
 have cons : ∀ (t : Tree) (l : List Tree), I64 (evalT vs arg t) → (∀ u, u ∈ l → I64 (evalT vs arg u)) → ∀ u, u ∈ t :: l → I64 (evalT vs arg u) := fun t l h1 h2 u hu => by
  rcases List.mem_cons.1 hu with rfl | hu
  ·exact h1
  ·exact h2 u hu
 unfold stepT at h
 split at h
 ·split at h
  ·simp only [Option.some.injEq] at h; subst h; exact cons _ _ (by show I64 val; unfold I64; omega) hs
  ·cases h
 split at h
 ·split at h
  ·simp only [Option.some.injEq] at h; subst h; exact cons _ _ (hx _) hs
  ·cases h
 split at h
 ·split at h
  ·cases st with
   | nil => cases h
   | cons t r => simp only [Option.some.injEq] at h; subst h; exact cons _ _ (conv_I64 (hs t (List.mem_cons_self ..))) (fun u hu => hs u (List.mem_cons_of_mem _ hu))
  ·cases h
 split at h
 ·cases h
 split at h
 ·simp only [Option.some.injEq] at h; subst h; exact cons _ _ ha hs
 split at h
 ·cases st with
  | nil => cases h
  | cons t r => simp only [Option.some.injEq] at h; subst h; exact cons _ _ (truthI_I64 _) (fun u hu => hs u (List.mem_cons_of_mem _ hu))
 ·cases st with
  | nil => cases h
  | cons r st =>
   cases st with
   | nil => cases h
   | cons l st =>
    simp only at h
    split at h
    ·rename_i hop
     simp only [Option.some.injEq] at h; subst h; exact cons _ _ (binV_I64 hop (hs l (List.mem_cons_of_mem _ (List.mem_cons_self ..))) (hs r (List.mem_cons_self ..))) (fun u hu => hs u (List.mem_cons_of_mem _ (List.mem_cons_of_mem _ hu)))
    ·cases h
theorem evalT_run {vs : List Int} {arg vars : Int} (hx : ∀ i, I64 (vs.getD i 0)) (ha : I64 arg) : ∀ (its : List (Int × Int)) (st st' : List Tree), (∀ u, u ∈ st → I64 (evalT vs arg u)) → runT vars its st = some st' → ∀ u, u ∈ st' → I64 (evalT vs arg u)
 | [], st, st', hs, h => by simp only [runT, Option.some.injEq] at h; subst h; exact hs
 | x :: r, st, st', hs, h => by
  simp only [runT] at h
  cases hp : stepT vars x.1 x.2 st with
  | none => rw [hp] at h; cases h
  | some p => rw [hp] at h; exact evalT_run hx ha r _ _ (evalT_step hx ha hs hp) h
theorem codeV_I64 {vs : List Int} {arg n : Int} {c : List (Int × Int)} (hx : ∀ i, I64 (vs.getD i 0)) (ha : I64 arg) : I64 (codeV n vs arg c) := by
 unfold codeV
 cases hl : liftT c n with
 | none => show I64 0; simp [I64]
 | some t => exact evalT_run hx ha c [] [t] (fun u hu => by cases hu) (liftT_some hl).2.2 t (List.mem_cons_self ..)
theorem stepS_I64 {n : Int} {ks : List Int} {arg : Int} {vs : List Int} (s : StmD) (hx : ∀ i, I64 (vs.getD i 0)) (ha : I64 arg) : ∀ i, I64 ((stepS n ks arg vs s).1.getD i 0) := by
 unfold stepS
 split
 ·exact I64_set hx (conv_I64 (codeV_I64 hx ha))
 ·exact hx
theorem execS_I64 {n : Int} {ks : List Int} {arg : Int} (ha : I64 arg) : ∀ (l : List StmD) {vs : List Int}, (∀ i, I64 (vs.getD i 0)) → ∀ i, I64 ((execS n ks arg vs l).1.getD i 0)
 | [], _, h => h
 | s :: r, _, h => execS_I64 ha r (stepS_I64 s h ha)
theorem step_I64 {ss : List StD} {ts : List TrD} {l : LimD} {ks vs : List Int} {arg : Int} {leaf : Nat} {p : Option Nat} (ha : I64 arg) (h : ∀ i, I64 (vs.getD i 0)) : ∀ i, I64 ((dpX ss ts l ks vs arg leaf p).1.getD i 0) := by
 cases p with
 | none => exact h
 | some q => exact execS_I64 ha _ h
theorem bankD_I64 {ks vs : List Int} (h : BankD ks vs) : ∀ i, I64 (vs.getD i 0) := fun i => by
 by_cases hi : i < ks.length
 ·obtain ⟨_, z, hz, e⟩ := h.2 i hi
  rw [e]; exact conv_I64 hz
 ·have e : vs.getD i 0 = 0 := by rw [List.getD_eq_getElem?_getD, List.getElem?_eq_none (by rw [← h.1]; omega)]; rfl
  rw [e]; simp [I64]
theorem drill_leaf {ss : List StD} {ts : List TrD} {l : LimD} (hC : Chk ss ts l) {k : Nat} (hk : k < ss.length) (hf : leafB ss (k : Int) = true) (tn : Nat) : ansD ss tn (k : Int) = [] := by
 unfold ansD
 split
 ·rw [leafB_at hC.good hk] at hf
  have e : ((k : Int)).toNat = k := by omega
  rw [e]
  exact down_leaf (of_decide_eq_true hf)
 ·rfl
end Go.Proofs.YtiimkhepplkocaaGreat
namespace Go.Proofs.YtiimkhepplkocaaGreat
open Go.RowKit Go.Sort
set_option linter.unusedVariables false
attribute [local go_sem ↓] Go.wp_at_zero Go.wp_at_succ
set_option maxHeartbeats 400000 in
theorem hInts_same (ao bo : Option Addr) (n c d : Nat) (xs : List Int) (w : World) (hn : n ≤ 1048576) (hx : SliceOf w ao n xs) (hy : SliceOf w bo n xs) :
  Calls Tryz.prog 12 #[.slice ao n c, .slice bo n d] w fun e w' => e = .returned (.bool true) ∧ Below w.heap.size w w' := by
 have HX := hid hx
 have HY := hid hy
 clear hx hy
 go_enter Tryz.func12, Tryz.ntmps12
 go_wp2
 go_loopw [13] (fun i wr => ∃ k : Nat, k ≤ n ∧ i = .int .i64 k ∧ ∃ q, wr = w.drewN q) (fun i _ => n - (intOf i).toNat)
 case atStart => exact ⟨0, Nat.zero_le _, rfl, 0, rfl⟩
 case round =>
  obtain ⟨k, hk, rfl, q, rfl⟩ := hrel
  by_cases hlt : k < n
  ·obtain ⟨b, off, rfl, hbl, hc⟩ := HX.out.2 (by omega)
   obtain ⟨b2, off2, rfl, hbl2, hc2⟩ := HY.out.2 (by omega)
   have h1 := hc k hlt
   have h2 := hc2 k hlt
   have hi : (k : Int) < (n : Int) := by omega
   obtain ⟨x, ex⟩ : ∃ x, x = xs.getD k 0 := ⟨_, rfl⟩
   rw [← ex] at h1 h2
   clear ex hc hc2
   go_wp2
   go_quiet (fail)
   go_wp2
   go_roundw
   case rel => exact ⟨k + 1, by omega, by go_num, q + nq, by first | rfl | rw [World.drewN_drewN]⟩
   case measure => simp [intOf]; omega
  ·obtain rfl : k = n := by omega
   go_wp2
   go_ret
   exact ⟨rfl, below_drewN (Below.refl _ _) q⟩
set_option maxHeartbeats 800000 in
theorem hBank_same (ao bo ao' bo' : Option Addr) (n m c d c' d' : Nat) (ks vs : List Int) (w : World) (hn : n ≤ 1048576) (hm : m ≤ 1048576) (hx : SliceOf w ao n ks) (hy : SliceOf w bo m vs) (hx' : SliceOf w ao' n ks) (hy' : SliceOf w bo' m vs) :
  Calls Tryz.prog 16 #[.agg #[.slice ao n c, .slice bo m d], .agg #[.slice ao' n c', .slice bo' m d']] w fun e w' => e = .returned (.bool true) ∧ Below w.heap.size w w' := by
 have HX : Hid (∀ w', Below w.heap.size w w' → SliceOf w' ao n ks ∧ SliceOf w' bo m vs ∧ SliceOf w' ao' n ks ∧ SliceOf w' bo' m vs) := fun w' h => ⟨hx.below h, hy.below h, hx'.below h, hy'.below h⟩
 have b0 := below2 w (.cells #[.slice ao n c, .slice bo m d] 32) (.cells #[.slice ao' n c', .slice bo' m d'] 32)
 have C1 := hid (hInts_same ao ao' n c c' ks _ hn (HX.out _ b0).1 (HX.out _ b0).2.2.1)
 have C2 := hid (fun w' (hb : Below w.heap.size w w') => hInts_same bo bo' m d d' vs w' hm (HX.out _ hb).2.1 (HX.out _ hb).2.2.2)
 have B0 := hid b0
 have n1 := heap_alloc_new w (.cells #[.slice ao n c, .slice bo m d] 32)
 have n2 := heap_alloc_new (w.alloc (.cells #[.slice ao n c, .slice bo m d] 32)) (.cells #[.slice ao' n c', .slice bo' m d'] 32)
 have N1 := hid (block_below n1 (below1 _ (.cells #[.slice ao' n c', .slice bo' m d'] 32)))
 have N2 : Hid (((w.alloc (.cells #[.slice ao n c, .slice bo m d] 32)).alloc (.cells #[.slice ao' n c', .slice bo' m d'] 32)).heap[w.heap.size + 1]? = some (.cells #[.slice ao' n c', .slice bo' m d'] 32 (0, 0))) := hid (by simpa using n2)
 clear hx hy hx' hy' b0 n1 n2
 go_enter Tryz.func16, Tryz.ntmps16
 go_wp2_with (first
  | (go_at_call 12; have q := C1.out; with_reducible refine q.mono ?_; clear q; rintro e w1 ⟨rfl, hb⟩; have B1 := hid (B0.out.trans (hb.mono B0.out.size)); obtain ⟨q0, q1, _, _⟩ := pair_cells (block_below N1.out hb); obtain ⟨r0, r1, _, _⟩ := pair_cells (block_below N2.out hb); have q2 := lt_of_block (block_below N1.out hb); have r2 := lt_of_block (block_below N2.out hb); clear hb)
  | (go_at_call 12; have q := C2.out _ B1.out; with_reducible refine q.mono ?_; clear q; rintro e w2 ⟨rfl, hb⟩; have B2 := hid (B1.out.trans (hb.mono B1.out.size)); clear hb))
 go_ret
 exact ⟨rfl, B2.out⟩
set_option maxHeartbeats 800000 in
theorem hEffects_same (v1 v2 : Value) (B1 B2 : Nat) (es : List EffD) (w : World) (hn : es.length ≤ 1048576) (hx : w.ownsRow B1 136 4 v1 es.length (effCells es)) (hy : w.ownsRow B2 136 4 v2 es.length (effCells es)) :
  Calls Tryz.prog 17 #[v1, v2] w fun e w' => e = .returned (.bool true) ∧ Below w.heap.size w w' := by
 obtain ⟨ao, c, rfl⟩ := own_any hx
 obtain ⟨bo, d, rfl⟩ := own_any hy
 obtain ⟨n, hnn⟩ : ∃ n, n = es.length := ⟨_, rfl⟩
 rw [← hnn] at hx hy hn ⊢
 have HX := hid hx
 have HY := hid hy
 have HN := hid hnn
 clear hx hy hnn
 go_enter Tryz.func17, Tryz.ntmps17
 go_wp2
 go_loopw [13] (fun i wr => ∃ k : Nat, k ≤ n ∧ i = .int .i64 k ∧ ∃ q, wr = w.drewN q) (fun i _ => n - (intOf i).toNat)
 case atStart => exact ⟨0, Nat.zero_le _, rfl, 0, rfl⟩
 case round =>
  obtain ⟨k, hk, rfl, q, rfl⟩ := hrel
  by_cases hlt : k < n
  ·obtain ⟨b, cap, e1, _, hbl⟩ := World.ownsRow.form HX.out (by omega)
   obtain ⟨b2, cap2, e2, _, hbl2⟩ := World.ownsRow.form HY.out (by omega)
   simp only [Value.slice.injEq, true_and] at e1 e2
   obtain ⟨rfl, rfl⟩ := e1
   obtain ⟨rfl, rfl⟩ := e2
   have hi : (k : Int) < (n : Int) := by omega
   obtain ⟨x, c1, c2, c3, c4⟩ := effCells_get es k (by rw [← HN.out]; exact hlt)
   have k1 := (World.ownsRow.cellAt HX.out (k * 4) (by omega)).trans c1
   have k2 := (World.ownsRow.cellAt HX.out (k * 4 + 1) (by omega)).trans c2
   have k3 := (World.ownsRow.cellAt HX.out (k * 4 + 2) (by omega)).trans c3
   have k4 := (World.ownsRow.cellAt HX.out (k * 4 + 3) (by omega)).trans c4
   have l1 := (World.ownsRow.cellAt HY.out (k * 4) (by omega)).trans c1
   have l2 := (World.ownsRow.cellAt HY.out (k * 4 + 1) (by omega)).trans c2
   have l3 := (World.ownsRow.cellAt HY.out (k * 4 + 2) (by omega)).trans c3
   have l4 := (World.ownsRow.cellAt HY.out (k * 4 + 3) (by omega)).trans c4
   obtain ⟨kd, av, bv, vv⟩ := x
   simp only at k1 k2 k3 k4 l1 l2 l3 l4
   clear c1 c2 c3 c4
   go_wp2
   go_quiet (fail)
   go_wp2
   go_roundw
   case rel => exact ⟨k + 1, by omega, by go_num, q + nq, by first | rfl | rw [World.drewN_drewN]⟩
   case measure => simp [intOf]; omega
  ·obtain rfl : k = n := by omega
   go_wp2
   go_ret
   exact ⟨rfl, below_drewN (Below.refl _ _) q⟩
set_option maxHeartbeats 800000 in
theorem hPick_det (co : Option Addr) (n cap : Nat) (i m : Nat) (hi : i ≤ 1000000) (hm : m ≤ 1000000) (w : World) (hn : n ≤ 1048576) (h : BytesAt w co n) : ∃ r : Nat, (r = 0 ∨ r < m) ∧ ∀ w', Below w.heap.size w w' →
  Calls Tryz.prog 13 #[.slice co n cap, .int .i64 (i : Int), .int .i64 (m : Int)] w' fun e w'' => e = .returned (.int .i64 (r : Int)) ∧ w'' = w' := by
 by_cases h0 : n = 0
 ·subst h0
  refine ⟨0, .inl rfl, fun w' _ => ?_⟩
  go_enter Tryz.func13, Tryz.ntmps13
  go_wp2
  go_ret
  exact ⟨rfl, rfl⟩
 ·by_cases h1 : m ≤ 1
  ·have n0 : ¬ (n : Int) = 0 := by omega
   have m1 : (m : Int) ≤ 1 := by omega
   refine ⟨0, .inl rfl, fun w' _ => ?_⟩
   clear h
   go_enter Tryz.func13, Tryz.ntmps13
   go_wp2
   go_ret
   exact ⟨rfl, rfl⟩
  ·have n0 : ¬ (n : Int) = 0 := by omega
   have m1 : ¬ (m : Int) ≤ 1 := by omega
   have m0 : ¬ (m : Int) = 0 := by omega
   obtain ⟨g, off, rfl, hg, hc⟩ := h (by omega)
   obtain ⟨j, hj⟩ : ∃ j : Nat, (i : Int) % (n : Int) = j := ⟨i % n, by simp⟩
   have hjn : j < n := by have := Int.emod_lt_of_pos (i : Int) (show (0 : Int) < n by omega); omega
   have hji : (j : Int) < (n : Int) := by omega
   obtain ⟨b, hb, hb0, hb1⟩ := hc j hjn
   obtain ⟨r, hr⟩ : ∃ r : Nat, b % (m : Int) = r := ⟨(b % (m : Int)).toNat, by have := Int.emod_nonneg b m0; omega⟩
   have hrm : r < m := by have := Int.emod_lt_of_pos b (show (0 : Int) < m by omega); omega
   refine ⟨r, .inr hrm, fun w' hw => ?_⟩
   have hb' : w'.cell? ⟨g, off + j, none⟩ = some (.int .u8 b) := (hw.cell (p := ⟨g, off + j, none⟩) hg).trans hb
   have hg' : g < w'.heap.size := Nat.lt_of_lt_of_le hg hw.size
   clear hc hb hw hg h
   go_enter Tryz.func13, Tryz.ntmps13
   go_wp2
   go_ret
   exact ⟨rfl, rfl⟩
set_option maxHeartbeats 800000 in
theorem hLimits_any (oa ta va : Option Addr) (m oc tm tc vn vc : Nat) (sg : Int) (b off : Nat) (w : World) (hm : m ≤ 1000000) (hm1 : 1 ≤ m) (hoa : oa = some ⟨b, off, none⟩) (hb : b < w.heap.size) (hc : w.cell? ⟨b, off + 4, none⟩ = some (.slice va vn vc)) :
  Calls Tryz.prog 9 #[.agg #[.int .i64 sg, .slice oa m oc, .slice ta tm tc], .int .i64 0] w fun e w' => e = .returned (.agg #[.int .i64 (m : Int), .int .i64 sg, .int .i64 (tm : Int), .int .i64 (vn : Int)]) ∧ Below w.heap.size w w' := by
 subst hoa
 have m0 : (0 : Int) < (m : Int) := by omega
 have nb : b ≠ w.heap.size := by omega
 have nb2 : b ≠ w.heap.size + 1 := by omega
 go_enter Tryz.func9, Tryz.ntmps9
 go_upto_region 1 with fail
 go_region
 have n2 := heap_alloc_new (w.alloc (.cells #[.int .i64 sg, .slice (some ⟨b, off, none⟩) m oc, .slice ta tm tc] 26)) (.cells #[.int .i64 (m : Int), .int .i64 sg, .int .i64 (tm : Int), .int .i64 (vn : Int)] 40)
 rw [World.size_alloc] at n2
 obtain ⟨q0, q1, q2, q3⟩ := quad_cells (block_below n2 (Below.refl _ _).drew)
 go_wp2
 refine bodyPost_ret (v := .agg #[.int .i64 (m : Int), .int .i64 sg, .int .i64 (tm : Int), .int .i64 (vn : Int)]) (by simp [results, Tryz.results9, go_sem, q0, q1, q2, q3]) rfl ⟨rfl, (below2 _ _ _).drew⟩
end Go.Proofs.YtiimkhepplkocaaGreat

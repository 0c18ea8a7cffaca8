import Derived.Test.YtiimkhepplkocaaGreatZc
namespace Go.Proofs.YtiimkhepplkocaaGreat
open Go.RowKit Go.Sort
set_option linter.unusedVariables false
attribute [local go_sem ↓] Go.wp_at_zero Go.wp_at_succ
theorem nodes_all {l : LimD} : ∀ {ss : List StmD} {vs : List Value}, nodesR l ss = some vs → ∀ s ∈ ss, (nodeOf l s).isSome = true := by
 intro ss
 induction ss with
 | nil => intro vs _ s hs; simp at hs
 | cons x r ih =>
  intro vs h s hs
  simp only [nodesR] at h
  cases h1 : nodeOf l x with
  | none => simp [h1] at h
  | some v =>
   cases h2 : nodesR l r with
   | none => simp [h1, h2] at h
   | some vs2 =>
    rcases List.mem_cons.1 hs with e | e
    ·subst e; rw [h1]; rfl
    ·exact ih h2 s e
theorem script_nodes {ss : List StD} {ts : List TrD} {l : LimD} (hC : Chk ss ts l) {ex en : List Nat} {acts : List StmD} (hex : ∀ x, x ∈ ex → x < ss.length) (hen : ∀ x, x ∈ en → x < ss.length) (ha : ∀ s ∈ acts, (nodeOf l s).isSome = true) : ∀ s ∈ scriptS ss ex acts en, (nodeOf l s).isSome = true := by
 intro s hs
 unfold scriptS at hs
 rcases List.mem_append.1 hs with h | h
 ·rcases List.mem_append.1 h with h | h
  ·obtain ⟨L, hL, hm⟩ := List.mem_flatten.1 h
   obtain ⟨x, hx, rfl⟩ := List.mem_map.1 hL
   obtain ⟨vs, hv⟩ := hC.ext x (hex x hx)
   exact nodes_all (lift_nodes hv) s hm
  ·exact ha s h
 ·obtain ⟨L, hL, hm⟩ := List.mem_flatten.1 h
  obtain ⟨x, hx, rfl⟩ := List.mem_map.1 hL
  obtain ⟨vs, hv⟩ := hC.ent x (hen x hx)
  exact nodes_all (lift_nodes hv) s hm
theorem boot_script (ss : List StD) : scriptS ss [] [] (bootOf ss) = bootS ss := by simp [scriptS, bootS]
structure Bq (w : World) (cx bx : Array Value) (X : World) : Prop where
 bel : Below w.heap.size w X
 c : X.heap[w.heap.size]? = some (.cells cx 36 (0, 0))
 b : X.heap[w.heap.size + 1]? = some (.cells bx 32 (0, 0))
 r : X.heap[w.heap.size + 1 + 1]? = some (.cells #[.slice none 0 0, .slice none 0 0] 32 (0, 0))
theorem Bq.below {w : World} {cx bx : Array Value} {X Y : World} (h : Bq w cx bx X) (hb : Below X.heap.size X Y) : Bq w cx bx Y := ⟨h.bel.trans (hb.mono h.bel.size), block_below h.c hb, block_below h.b hb, block_below h.r hb⟩
theorem bq_start (w : World) (cx bx : Array Value) : Bq w cx bx (((w.alloc (.cells cx 36)).alloc (.cells bx 32)).alloc (.cells #[.slice none 0 0, .slice none 0 0] 32)) := by
 have h2 := heap_alloc_new (w.alloc (.cells cx 36)) (.cells bx 32)
 have h3 := heap_alloc_new ((w.alloc (.cells cx 36)).alloc (.cells bx 32)) (.cells #[.slice none 0 0, .slice none 0 0] 32)
 simp only [World.size_alloc] at h2 h3
 exact ⟨below3 _ _ _ _, block_below (block_below (heap_alloc_new w _) (below1 _ _)) (below1 _ _), block_below h2 (below1 _ _), h3⟩
theorem Bq.grown {w : World} {cx bx : Array Value} {X Y : World} {B n : Nat} {v : Value} {xs : List Value} (h : Bq w cx bx X) (ho : X.ownsRow w.heap.size 3 1 v n xs) (hg : X.grownBy Y v.ownBlock) : Bq w cx bx Y :=
 ⟨h.bel.grown hg h.bel.size (fun kk e => (ho.lt kk e).1), (hg.block _ (lt_of_block h.c) (fun e => own_far ho (by decide) h.c e.symm)).trans h.c, (hg.block _ (lt_of_block h.b) (fun e => own_far ho (by decide) h.b e.symm)).trans h.b, (hg.block _ (lt_of_block h.r) (fun e => own_far ho (by decide) h.r e.symm)).trans h.r⟩
set_option maxRecDepth 100000 in
set_option maxHeartbeats 8000000 in
theorem l3Boot_any (so tq : Option Addr) (n sc tn tc : Nat) (ss : List StD) (ts : List TrD) (l : LimD) (hC : Chk ss ts l) (htn : ts.length = tn) (kA vA : Option Addr) (kn kc vc : Nat) (ks vs : List Int) (w : World) (hs : StatesOf w so n ss) (hk : SliceOf w kA kn ks) (hv : SliceOf w vA kn vs) (hi : ∀ i, I64 (vs.getD i 0)) (hbp : ks.length = vs.length ∧ vs.length ≤ 32 ∧ ∀ i, i < ks.length → 1 ≤ ks.getD i 0 ∧ ks.getD i 0 ≤ 7) (hlv : l.v = kn) :
  Calls Tryz.prog 71 #[.agg #[.slice so n sc, .slice tq tn tc], .agg #[.slice kA kn kc, .slice vA kn vc]] w fun e w' => ∃ kv vv ev, e = .returned (.tuple #[.int .i64 (bootTo ss : Nat), .agg #[kv, vv], ev]) ∧ OutE w.heap.size w' kv vv ev ks (execS l.v ks 0 vs (bootS ss)).1 (execS l.v ks 0 vs (bootS ss)).2 ∧ Below w.heap.size w w' := by
 obtain ⟨i0, hi0, hz0, hz1, hz2⟩ := info_parts Tryz.infoInt0
 have G := hC.good
 rw [htn] at G
 have HL := hid hs.1
 have EK : Hid (ks.length = kn) := hid hk.1
 have EV : Hid (vs.length = kn) := hid hv.1
 have k32 : kn ≤ 32 := by have := hbp.2.1; rw [EV.out] at this; exact this
 have n1 : 1 ≤ n := by rw [← HL.out]; exact G.n1
 have HS : Hid (∀ w', Below w.heap.size w w' → StatesOf w' so n ss ∧ SliceOf w' kA kn ks ∧ SliceOf w' vA kn vs) := fun w' h => ⟨hs.below h, hk.below h, hv.below h⟩
 have EN := hid (bq_start w #[.slice so n sc, .slice tq tn tc] #[.slice kA kn kc, .slice vA kn vc])
 have CD := hid (fun w' (hb : Below w.heap.size w w') => l2Down_any so tq n sc tn tc ss G (n - 0) 0 (by omega) rfl w' (HS.out w' hb).1)
 have BL := hid (bootOf_lt G)
 have BN := hid (bootOf_len G)
 have CS := hid (fun eo ec w' (hb : Below w.heap.size w w') (h : NatsOf w' eo (bootOf ss)) => l3Script_any so tq n sc tn tc ss ts l hC none none eo 0 0 0 ec [] (bootOf ss) [] w' (by simp) (by have := BN.out; omega) (fun x hx => by simp at hx) (fun x hx => by rw [← HL.out]; exact BL.out x hx) (by omega) (HS.out w' hb).1 (fun h => absurd h (by simp)) h ⟨rfl, fun h => absurd h (by omega)⟩)
 have SL : Hid ((bootS ss).length ≤ 20000) := hid (by
  have h1 := flat_le (K := bootOf ss) (g := fun i => (ss.getD i st0).entry) (fun x hx => by obtain ⟨vs, hv⟩ := hC.ent x (BL.out x hx); exact lift_len hv)
  have h2 := BN.out
  unfold bootS
  omega)
 have CX := hid (fun g cap w' (hb : Below w.heap.size w w') (hcap : (bootS ss).length ≤ cap) (h : StmsOf w' (some ⟨g, 0, none⟩) (bootS ss).length (bootS ss)) => l1Exec_any l kA kn kc ks 0 (by unfold I64; omega) k32 hlv EK.out hbp.2.2 (bootS ss) ⟨g, 0, none⟩ (bootS ss).length cap vA vc vs w' (by have := SL.out; omega) hcap (by rw [← boot_script]; exact script_nodes hC (fun x hx => by simp at hx) BL.out (fun s hs => by simp at hs)) hi h (HS.out w' hb).2.1 (HS.out w' hb).2.2)
 simp only [boot_script, List.length_nil] at CS
 have HLV := hid hlv
 clear hlv
 clear hs hk hv hi hbp
 obtain ⟨W, hW⟩ : ∃ W, W = (((w.alloc (.cells #[.slice so n sc, .slice tq tn tc] 36)).alloc (.cells #[.slice kA kn kc, .slice vA kn vc] 32)).alloc (.cells #[.slice none 0 0, .slice none 0 0] 32)).alloc (.cells #[.int .i64 0] 3) := ⟨_, rfl⟩
 have BW : Hid (Bq w #[.slice so n sc, .slice tq tn tc] #[.slice kA kn kc, .slice vA kn vc] W) := hid (by rw [hW]; exact EN.out.below (below1 _ _))
 have OW : Hid (W.ownsRow w.heap.size 3 1 (.slice (some ⟨w.heap.size + 1 + 1 + 1, 0, none⟩) 1 1) 1 (ints [0])) := hid (by rw [hW]; simpa [ints] using own_lit w (((w.alloc (.cells #[.slice so n sc, .slice tq tn tc] 36)).alloc (.cells #[.slice kA kn kc, .slice vA kn vc] 32)).alloc (.cells #[.slice none 0 0, .slice none 0 0] 32)) 0 (by simp; omega))
 have HW := hid hW
 have DL := hid (down_len G (ss.length - 0) 0 G.n1 rfl)
 have NB := hid G.n2
 clear hW
 go_enter Tryz.func71, Tryz.ntmps71
 go_wp2_with (first
  | (go_at_call 52; rw [← HW.out]; refine (CD.out _ BW.out.bel).mono ?_; rintro e w1 ⟨g1, c1, rfl, ho, hb⟩; have B1 := hid (BW.out.below hb); have I1 := hid ho; have O1 := hid (ownsRow_below OW.out hb); clear ho hb)
  | (at_builtin; refine wpList_append_own _ rfl (.tmp 10) (.tmp 12) 30 rfl w.heap.size 3 i0 (.int .i64 0) 1 8 Tryz.underlying30 hi0 hz0 hz1 hz2 rfl (by decide) (.slice (some ⟨w.heap.size + 1 + 1 + 1, 0, none⟩) 1 1) 1 (ints [0]) rfl O1.out ⟨g1, 0, none⟩ (down ss 0).length c1 (ints (down ss 0)) rfl (by rw [ints_len]; omega) (own_news I1.out) (ints_one _) (by have := DL.out; have := NB.out; unfold maxLen; omega) (by have := DL.out; have := NB.out; omega) B1.out.bel.size ?_))
 intro v' w2 hown hgrow _
 have LB : Hid (1 + (down ss 0).length = (bootOf ss).length) := hid (by unfold bootOf; simp; omega)
 have hown2 : w2.ownsRow w.heap.size 3 1 v' (bootOf ss).length (ints (bootOf ss)) := by rw [← LB.out]; simpa [bootOf, ints] using hown
 have B2 := hid (Bq.grown (B := 0) B1.out O1.out hgrow)
 obtain ⟨g2, cap2, hv2, _, hgl2⟩ := World.ownsRow.form hown2 (by rw [← LB.out]; omega)
 subst hv2
 have O2 := hid hown2
 have NT : Hid (∀ w', Below w2.heap.size w2 w' → NatsOf w' (some ⟨g2, 0, none⟩) (bootOf ss)) := hid (fun w' hb _ => ⟨g2, rfl, Nat.lt_of_lt_of_le hgl2 hb.size, fun j hj => (hb.cell (p := ⟨g2, j, none⟩) hgl2).trans (by rw [World.ownsRow.cellAt O2.out j (by omega)]; simp [ints, List.getElem?_eq_getElem hj])⟩)
 clear hown hgrow hown2
 go_wp2_with fail
 obtain ⟨c0, c1⟩ := two_cells B2.out.c
 obtain ⟨b0, b1, _, _⟩ := pair_cells B2.out.b
 have D2 := hid (B2.out.below ((Below.refl _ _).drew))
 go_region_held3 (fun w' => w'.cell? ⟨w.heap.size, 0, none⟩ = some (.slice so n sc) ∧ w'.cell? ⟨w.heap.size, 1, none⟩ = some (.slice tq tn tc) ∧ w'.cell? ⟨w.heap.size + 1, 0, none⟩ = some (.slice kA kn kc) ∧ w'.cell? ⟨w.heap.size + 1, 1, none⟩ = some (.slice vA kn vc)) (first | (with_reducible exact SY.out) | (with_reducible exact SX.out) | go_keep)
  (first
   | (go_at_call 114; refine (CS.out (some ⟨g2, 0, none⟩) cap2 _ D2.out.bel (NT.out _ ((Below.refl _ _).drew))).mono ?_; rintro e w3 ⟨g3, cap3, rfl, hcp, hst, hb⟩; have B3 := hid (D2.out.below hb); have T3 := hid hst; have P3 := hid hcp; have F3 := hid (undrewH hb); have SX := hid (And.intro (two_cells B3.out.c).1 (And.intro (two_cells B3.out.c).2 (two_cells B3.out.b))); clear hcp hst hb)
   | (go_at_call 113; refine (CX.out g3 cap3 _ B3.out.bel P3.out T3.out).mono ?_; rintro e w4 ⟨lv, ee, rfl, hol, hoe, hne, hb⟩; have B4 := hid (B3.out.below hb); have F4 := hid (F3.out.trans (hb.mono F3.out.size)); have OL := hid hol; have OE4 := hid hoe; have S3 := hid B3.out.bel.size; obtain ⟨gl, pl, hlv2, _, _⟩ := hol.form; subst hlv2; obtain ⟨ge, pe, hev, _, _⟩ := own_form hoe hne; subst hev; have SY := hid (And.intro (two_cells B4.out.c).1 (And.intro (two_cells B4.out.c).2 (two_cells B4.out.b))); clear hol hoe hne hb))
 all_goals
  go_wp2_with fail
  obtain ⟨q, hq⟩ : ∃ q, (bootOf ss).length = q + 1 := ⟨(down ss 0).length, by rw [← LB.out]; omega⟩
  have hgl4 : g2 < w4.heap.size := Nat.lt_of_lt_of_le hgl2 F4.out.size
  have cq : w4.cell? ⟨g2, q, none⟩ = some (.int .i64 (bootTo ss : Nat)) := by
   rw [F4.out.cell (p := ⟨g2, q, none⟩) hgl2, World.ownsRow.cellAt O2.out q (by omega)]
   unfold bootTo
   simp [ints, hq]
  have HQ := hid hq
  rw [hq]
  obtain ⟨nx, hnx⟩ : ∃ x : Nat, x = bootTo ss := ⟨_, rfl⟩
  rw [← hnx] at cq
  have NX := hid hnx
  have qn : (q : Int) < (q : Int) + 1 := by omega
  have q0' : (0 : Int) ≤ (q : Int) := by omega
  have q3 : q ≤ 1000 := by have := BN.out; omega
  have qI : (q : Int) ≤ 1000 := by omega
  have qw : IntKind.i64.wrap (q : Int) = q := IntWalk.i64_in _ (by omega)
  obtain ⟨k0, k1⟩ := two_cells B4.out.b
  have lb : w.heap.size + 1 < w4.heap.size := lt_of_block B4.out.b
  have lr : w.heap.size + 1 + 1 < w4.heap.size := lt_of_block B4.out.r
  obtain ⟨z0, z1, z2, z3⟩ := pair_cells B4.out.r
  clear hq hnx c0 c1 b0 b1
  by_cases hk0 : kn = 0
  ·have gl4 : gl < w4.heap.size := by obtain ⟨cur, h, _⟩ := own_block OL.out.1; exact lt_of_block h
   have G4 := hid gl4
   have KN : Hid (ks = []) := hid (List.length_eq_zero_iff.1 (by rw [EK.out]; exact hk0))
   have hp0 : ∀ w : World, (pure #[] : Sem (Array Value)).run Tryz.prog w = .ok #[] w := fun _ => rfl
   have hs0 : ∀ (a : Addr) (w : World), (storeCells a ([] : List Value)).run Tryz.prog w = .ok () w := fun _ _ => rfl
   have C5 := hid ((below1 w4 (.cells #[] 3)).drew)
   have Z5 := hid (block_below B4.out.r C5.out)
   have OU : Hid (((w4.alloc (.cells #[] 3)).drew).ownsRow w4.heap.size 3 1 (.slice (some ⟨w4.heap.size, 0, none⟩) 0 0) 0 []) := hid (own_none (block_below (heap_alloc_new w4 (.cells #[] 3)) ((Below.refl _ _).drew)) (Nat.le_refl _))
   subst hk0
   clear gl4
   rcases kA with _ | ka0
   all_goals go_region_law (fail)
   all_goals
    go_wp2_with fail
    obtain ⟨y0, y1⟩ := two_cells' (block_below (out_cells (u1 := .slice (some ⟨w4.heap.size, 0, none⟩) 0 0) (u2 := .slice (some ⟨gl, 0, none⟩) (execS l.v ks 0 vs (bootS ss)).1.length pl) B4.out.r) ((below1 _ (.cells #[] 3)).drew))
    refine bodyPost_ret (v := .tuple #[.int .i64 (nx : Int), .agg #[.slice (some ⟨w4.heap.size, 0, none⟩) 0 0, .slice (some ⟨gl, 0, none⟩) (execS l.v ks 0 vs (bootS ss)).1.length pl], .slice (some ⟨ge, 0, none⟩) (execS l.v ks 0 vs (bootS ss)).2.length pe]) (by simp [results, Tryz.results71, go_sem, y0, y1]) rfl ?_
    have hb4 := out_bel (u1 := .slice (some ⟨w4.heap.size, 0, none⟩) 0 0) (u2 := .slice (some ⟨gl, 0, none⟩) (execS l.v ks 0 vs (bootS ss)).1.length pl) (o1 := 0) (o2 := 1) B4.out.bel (show w.heap.size ≤ w.heap.size + 1 + 1 by omega)
    refine ⟨.slice (some ⟨w4.heap.size, 0, none⟩) 0 0, .slice (some ⟨gl, 0, none⟩) (execS l.v ks 0 vs (bootS ss)).1.length pl, .slice (some ⟨ge, 0, none⟩) (execS l.v ks 0 vs (bootS ss)).2.length pe, by rw [NX.out], ?_, (hb4.alloc (by simpa using B4.out.bel.size) _).drew⟩
    have h4 : OutE w.heap.size w4 (.slice none 0 0) (.slice (some ⟨gl, 0, none⟩) (execS l.v ks 0 vs (bootS ss)).1.length pl) (.slice (some ⟨ge, 0, none⟩) (execS l.v ks 0 vs (bootS ss)).2.length pe) [] (execS l.v ks 0 vs (bootS ss)).1 (execS l.v ks 0 vs (bootS ss)).2 :=
     ⟨World.ownsRow_nil _ _ _ _, ownsRow_base OL.out.1 S3.out, ownsRow_base OE4.out S3.out, fun b e => by cases e⟩
    have h5 := (h4.set2 B4.out.r (by decide) (by decide) 0 1 (.slice (some ⟨w4.heap.size, 0, none⟩) 0 0) (.slice (some ⟨gl, 0, none⟩) (execS l.v ks 0 vs (bootS ss)).1.length pl)).below ((below1 _ (.cells #[] 3)).drew)
    have hn : ((((w4.setCell ⟨w.heap.size + 1 + 1, 0, none⟩ (.slice (some ⟨w4.heap.size, 0, none⟩) 0 0)).setCell ⟨w.heap.size + 1 + 1, 1, none⟩ (.slice (some ⟨gl, 0, none⟩) (execS l.v ks 0 vs (bootS ss)).1.length pl)).alloc (.cells #[] 3)).drew).heap[w4.heap.size]? = some (.cells #[] 3 (0, 0)) := by
     have := heap_alloc_new ((w4.setCell ⟨w.heap.size + 1 + 1, 0, none⟩ (.slice (some ⟨w4.heap.size, 0, none⟩) 0 0)).setCell ⟨w.heap.size + 1 + 1, 1, none⟩ (.slice (some ⟨gl, 0, none⟩) (execS l.v ks 0 vs (bootS ss)).1.length pl)) (.cells #[] 3)
     rw [World.size_setCell, World.size_setCell] at this
     exact this
    have hl0 : ks.length = 0 := by rw [KN.out]; rfl
    have hm0 : ks.map (Value.int .i64) = [] := by rw [KN.out]; rfl
    exact ⟨by rw [hl0, hm0]; exact own_none hn B4.out.bel.size, h5.v, h5.e, fun b e => by simp [Value.ownBlock] at e ⊢; have := G4.out; omega⟩
  ·obtain ⟨kb, ko, hkA, _, _⟩ := (HS.out w (Below.refl _ _)).2.1.2 (by omega)
   subst hkA
   have NK : Hid (∀ X, Below w.heap.size w X → ∀ j u, (ks.map (Value.int .i64))[j]? = some u → X.cell? ((⟨kb, ko, none⟩ : Addr).add j) = some u) := hid (fun X hb => (news_of (HS.out w (Below.refl _ _)).2.1 hb).2 _ rfl)
   have OU : Hid (((w4.alloc (.cells #[] 3)).drew).ownsRow w4.heap.size 3 1 (.slice (some ⟨w4.heap.size, 0, none⟩) 0 0) 0 []) := hid (own_none (block_below (heap_alloc_new w4 (.cells #[] 3)) ((Below.refl _ _).drew)) (Nat.le_refl _))
   have BU : Hid (Bq w #[.slice so n sc, .slice tq tn tc] #[.slice (some ⟨kb, ko, none⟩) kn kc, .slice vA kn vc] ((w4.alloc (.cells #[] 3)).drew)) := hid ((B4.out.below (below1 _ _)).below ((Below.refl _ _).drew))
   have LK : Hid ((ks.map (Value.int .i64)).length = kn * 1) := hid (by simp [EK.out])
   have gl4 : gl < w4.heap.size := by obtain ⟨cur, h, _⟩ := own_block OL.out.1; exact lt_of_block h
   have G4 := hid gl4
   clear gl4
   go_region_law
    (refine step_append_lies _ (by rfl) _ _ _ (by rfl) w4.heap.size 3 i0 _ 1 8 Tryz.underlying30 hi0 hz0 hz1 hz2 rfl (by omega) (.slice (some ⟨w4.heap.size, 0, none⟩) 0 0) 0 [] (by simp [Act.eval]) OU.out ⟨kb, ko, none⟩ kn kc (ks.map (Value.int .i64)) (by simp [Act.eval]) LK.out (NK.out _ BU.out.bel) (ints_one1 ks) (by omega) (by unfold maxLen; omega) (by omega) (by simp) (w4.heap.size + 1) (by simp) ?_; intro g5 cap5 w5 hown5 hgrow5 hat5 hlt5; have C5 := hid ((below1 w4 (.cells #[] 3)).drew.grown hgrow5 (by simp) (fun k hk => by simp [Value.ownBlock] at hk; omega)); have O5 := hid hown5; have Z5 := hid (block_below B4.out.r C5.out); obtain ⟨u0, u1, u2, u3⟩ := pair_cells Z5.out; have cq5 := (C5.out.cell (p := ⟨g2, q, none⟩) hgl4).trans cq; clear hown5 hgrow5 hat5)
   all_goals
    go_wp2_with fail
    obtain ⟨y0, y1⟩ := two_cells' (out_cells (u1 := .slice (some ⟨g5, 0, none⟩) kn cap5) (u2 := .slice (some ⟨gl, 0, none⟩) (execS l.v ks 0 vs (bootS ss)).1.length pl) Z5.out)
    refine bodyPost_ret (v := .tuple #[.int .i64 (nx : Int), .agg #[.slice (some ⟨g5, 0, none⟩) kn cap5, .slice (some ⟨gl, 0, none⟩) (execS l.v ks 0 vs (bootS ss)).1.length pl], .slice (some ⟨ge, 0, none⟩) (execS l.v ks 0 vs (bootS ss)).2.length pe]) (by simp [results, Tryz.results71, go_sem, y0, y1]) rfl ?_
    refine ⟨_, _, _, by rw [NX.out], ?_, out_bel (B4.out.bel.trans (C5.out.mono B4.out.bel.size)) (by omega)⟩
    have o5 : w5.ownsRow w4.heap.size 3 1 (.slice (some ⟨g5, 0, none⟩) kn cap5) ks.length (ks.map (Value.int .i64)) := by rw [EK.out]; simpa using O5.out
    have g5l := (o5.lt g5 rfl).1
    have h5 : OutE w.heap.size w5 (.slice (some ⟨g5, 0, none⟩) kn cap5) (.slice (some ⟨gl, 0, none⟩) (execS l.v ks 0 vs (bootS ss)).1.length pl) (.slice (some ⟨ge, 0, none⟩) (execS l.v ks 0 vs (bootS ss)).2.length pe) ks (execS l.v ks 0 vs (bootS ss)).1 (execS l.v ks 0 vs (bootS ss)).2 :=
     ⟨ownsRow_base o5 B4.out.bel.size, ownsRow_below (ownsRow_base OL.out.1 S3.out) C5.out, ownsRow_below (ownsRow_base OE4.out S3.out) C5.out, fun b e => by simp [Value.ownBlock] at e ⊢; have := G4.out; omega⟩
    exact h5.set2 Z5.out (by decide) (by decide) 0 1 _ _
end Go.Proofs.YtiimkhepplkocaaGreat
namespace Go.Proofs.YtiimkhepplkocaaGreat
open Go.RowKit Go.Sort
set_option linter.unusedVariables false
attribute [local go_sem ↓] Go.wp_at_zero Go.wp_at_succ
structure By (w : World) (cx lx bx : Array Value) (X : World) : Prop where
 bel : Below w.heap.size w X
 c : X.heap[w.heap.size]? = some (.cells cx 36 (0, 0))
 l : X.heap[w.heap.size + 1]? = some (.cells lx 40 (0, 0))
 b : X.heap[w.heap.size + 1 + 1]? = some (.cells bx 32 (0, 0))
theorem By.below {w : World} {cx lx bx : Array Value} {X Y : World} (h : By w cx lx bx X) (hb : Below X.heap.size X Y) : By w cx lx bx Y := ⟨h.bel.trans (hb.mono h.bel.size), block_below h.c hb, block_below h.l hb, block_below h.b hb⟩
theorem by_start (w : World) (cx lx bx : Array Value) : By w cx lx bx (((w.alloc (.cells cx 36)).alloc (.cells lx 40)).alloc (.cells bx 32)) := by
 have h2 := heap_alloc_new (w.alloc (.cells cx 36)) (.cells lx 40)
 have h3 := heap_alloc_new ((w.alloc (.cells cx 36)).alloc (.cells lx 40)) (.cells bx 32)
 simp only [World.size_alloc] at h2 h3
 exact ⟨below3 _ _ _ _, block_below (block_below (heap_alloc_new w _) (below1 _ _)) (below1 _ _), block_below h2 (below1 _ _), h3⟩
set_option maxHeartbeats 4000000 in
theorem l3Ready_any (so tq : Option Addr) (n sc tn tc : Nat) (ss : List StD) (ts : List TrD) (o s t v : Int) (kA vA : Option Addr) (kn kc vn vc : Nat) (ks vs : List Int) (w : World) (hn : n ≤ 9223372036854775807) (htn : tn ≤ 9223372036854775807) (hkn : kn ≤ 1048576) (hvn : vn ≤ 1048576) (hs : StatesOf w so n ss) (ht : TransOf w tq tn ts) (hk : SliceOf w kA kn ks) (hv : SliceOf w vA vn vs) :
  Calls Tryz.prog 53 #[.agg #[.slice so n sc, .slice tq tn tc], .agg #[.int .i64 o, .int .i64 s, .int .i64 t, .int .i64 v], .agg #[.slice kA kn kc, .slice vA vn vc]] w fun e w' => e = .returned (.bool (okBt ss ts ⟨o, s, t, v⟩ ks vs)) ∧ Below w.heap.size w w' := by
 have EV : Hid (vs.length = vn) := hid hv.1
 have HS : Hid (∀ w', Below w.heap.size w w' → SliceOf w' kA kn ks ∧ SliceOf w' vA vn vs) := fun w' h => ⟨hk.below h, hv.below h⟩
 have EN := hid (by_start w #[.slice so n sc, .slice tq tn tc] #[.int .i64 o, .int .i64 s, .int .i64 t, .int .i64 v] #[.slice kA kn kc, .slice vA vn vc])
 have C := hid (specCheck_any so tq n sc tn tc ss ts o s t v _ hn htn (hs.below EN.out.bel) (ht.below EN.out.bel))
 obtain ⟨fc, hfc⟩ : ∃ f, f = (checkOf ss ts ⟨o, s, t, v⟩).1 := ⟨_, rfl⟩
 obtain ⟨fp, hfp⟩ : ∃ f, f = (checkOf ss ts ⟨o, s, t, v⟩).2 := ⟨_, rfl⟩
 rw [← hfc, ← hfp] at C
 obtain ⟨bb, hbb⟩ : ∃ b, b = bankB ks vs := ⟨_, rfl⟩
 have CB := hid (fun w' (hb : Below w.heap.size w w') => specBankOK_any _ _ kn vn kc vc ks vs w' (by omega) (by omega) (HS.out w' hb).1 (HS.out w' hb).2)
 rw [← hbb] at CB
 have EQ : Hid (okBt ss ts ⟨o, s, t, v⟩ ks vs = (decide (fc = 0) && (bb && decide ((vn : Int) = v)))) := hid (by unfold okBt fitB; rw [← hfc, ← hbb, EV.out])
 rw [EQ.out]
 clear hs ht hk hv hfc hfp hbb
 by_cases h0 : fc = 0
 ·subst h0
  by_cases hv2 : (vn : Int) = v
  ·have hd : decide ((vn : Int) = v) = true := by simpa using hv2
   have hd2 : ((vn : Int) == v) = true := by simpa using hv2
   rw [hd]
   clear hd hv2
   cases bb
   all_goals
    go_enter Tryz.func53, Tryz.ntmps53
    go_wp2_with (first
     | (go_at_call 48; refine C.out.mono ?_; rintro e w1 ⟨rfl, hb⟩; have B1 := hid (EN.out.below hb); obtain ⟨p0, p1, _, _⟩ := pair_cells B1.out.b; obtain ⟨l0, l1, l2, l3⟩ := quad_cells B1.out.l; clear hb)
     | (go_at_call 23; refine (CB.out _ B1.out.bel).mono ?_; rintro e w2 ⟨rfl, hb⟩; have B2 := hid (B1.out.below hb); obtain ⟨p0, p1, _, _⟩ := pair_cells B2.out.b; obtain ⟨l0, l1, l2, l3⟩ := quad_cells B2.out.l; clear hb))
    go_ret
    exact ⟨ret_bool (by simp), B2.out.bel⟩
  ·have hd : decide ((vn : Int) = v) = false := by simpa using hv2
   have hd2 : ((vn : Int) == v) = false := by simpa using hv2
   rw [hd]
   clear hd
   cases bb
   all_goals
    go_enter Tryz.func53, Tryz.ntmps53
    go_wp2_with (first
     | (go_at_call 48; refine C.out.mono ?_; rintro e w1 ⟨rfl, hb⟩; have B1 := hid (EN.out.below hb); obtain ⟨p0, p1, _, _⟩ := pair_cells B1.out.b; obtain ⟨l0, l1, l2, l3⟩ := quad_cells B1.out.l; clear hb)
     | (go_at_call 23; refine (CB.out _ B1.out.bel).mono ?_; rintro e w2 ⟨rfl, hb⟩; have B2 := hid (B1.out.below hb); obtain ⟨p0, p1, _, _⟩ := pair_cells B2.out.b; obtain ⟨l0, l1, l2, l3⟩ := quad_cells B2.out.l; clear hb))
    go_ret
    exact ⟨ret_bool (by simp), B2.out.bel⟩
 ·have h0' : (fc == 0) = false := by simpa using h0
  have H0 := hid h0
  go_enter Tryz.func53, Tryz.ntmps53
  go_wp2_with (go_at_call 48; refine C.out.mono ?_; rintro e w1 ⟨rfl, hb⟩; have B1 := hid (EN.out.below hb); clear hb)
  go_ret
  exact ⟨ret_bool (by simp [H0.out]), B1.out.bel⟩
end Go.Proofs.YtiimkhepplkocaaGreat
namespace Go.Proofs.YtiimkhepplkocaaGreat
open Go.RowKit Go.Sort
set_option linter.unusedVariables false
attribute [local go_sem ↓] Go.wp_at_zero Go.wp_at_succ
set_option maxRecDepth 100000 in
set_option maxHeartbeats 8000000 in
theorem specBoot_any (so tq : Option Addr) (n sc tn tc : Nat) (ss : List StD) (ts : List TrD) (o s t v : Int) (kA vA : Option Addr) (kn kc vn vc : Nat) (ks vs : List Int) (w : World) (hn : n ≤ 9223372036854775807) (htn : tn ≤ 9223372036854775807) (hkn : kn ≤ 1048576) (hvn : vn ≤ 1048576) (hs : StatesOf w so n ss) (ht : TransOf w tq tn ts) (hk : SliceOf w kA kn ks) (hv : SliceOf w vA vn vs) (hi : ∀ i, I64 (vs.getD i 0)) :
  Calls Tryz.prog 21 #[.agg #[.slice so n sc, .slice tq tn tc], .agg #[.int .i64 o, .int .i64 s, .int .i64 t, .int .i64 v], .agg #[.slice kA kn kc, .slice vA vn vc]] w fun e w' => ∃ kv vv ev, e = .returned (.tuple #[.int .i64 (btL ss ts ⟨o, s, t, v⟩ ks vs), .agg #[kv, vv], ev]) ∧ OutE w.heap.size w' kv vv ev (btK ss ts ⟨o, s, t, v⟩ ks vs) (btV ss ts ⟨o, s, t, v⟩ ks vs) (btE ss ts ⟨o, s, t, v⟩ ks vs) ∧ Below w.heap.size w w' := by
 have EN := hid (bx_start w #[.slice so n sc, .slice tq tn tc] #[.int .i64 o, .int .i64 s, .int .i64 t, .int .i64 v] #[.slice kA kn kc, .slice vA vn vc])
 have EK : Hid (ks.length = kn) := hid hk.1
 have EV : Hid (vs.length = vn) := hid hv.1
 have SL := hid hs.1
 have TL := hid ht.1
 have HS : Hid (∀ w', Below w.heap.size w w' → StatesOf w' so n ss ∧ SliceOf w' kA kn ks ∧ SliceOf w' vA vn vs) := fun w' h => ⟨hs.below h, hk.below h, hv.below h⟩
 have CR := hid (l3Ready_any so tq n sc tn tc ss ts o s t v kA vA kn kc vn vc ks vs _ hn htn hkn hvn (hs.below EN.out.bel) (ht.below EN.out.bel) (hk.below EN.out.bel) (hv.below EN.out.bel))
 have HI := hid hi
 obtain ⟨ok, hok⟩ : ∃ b, b = okBt ss ts ⟨o, s, t, v⟩ ks vs := ⟨_, rfl⟩
 rw [← hok] at CR
 cases ok with
 | false =>
  have A1 : Hid (okBt ss ts ⟨o, s, t, v⟩ ks vs = false) := hid hok.symm
  clear hs ht hk hv hi hok
  go_enter Tryz.func21, Tryz.ntmps21
  go_wp2_with (go_at_call 53; refine CR.out.mono ?_; rintro e w1 ⟨rfl, hb⟩; have B1 := hid (EN.out.below hb); obtain ⟨z0, z1, z2, z3⟩ := pair_cells B1.out.r; have zl := lt_of_block B1.out.r; clear hb)
  obtain ⟨y0, y1⟩ := two_cells' (block_below (out_cells (u1 := .slice none 0 0) (u2 := .slice none 0 0) B1.out.r) (below1 _ OE))
  refine bodyPost_ret (v := .tuple #[.int .i64 (-1), .agg #[.slice none 0 0, .slice none 0 0], .slice (some ⟨w1.heap.size, 0, none⟩) 0 0]) (by simp [results, Tryz.results21, go_sem, y0, y1]) rfl ?_
  refine ⟨.slice none 0 0, .slice none 0 0, .slice (some ⟨w1.heap.size, 0, none⟩) 0 0, by rw [show btL ss ts ⟨o, s, t, v⟩ ks vs = -1 from by simp [btL, A1.out]], ?_, (out_bel B1.out.bel (by omega)).alloc (by have := B1.out.bel.size; simp; omega) _⟩
  simp only [btK, btV, btE, A1.out]
  exact outE_none (by simpa using new1 ((w1.setCell ⟨w.heap.size + 1 + 1 + 1, 0, none⟩ (.slice none 0 0)).setCell ⟨w.heap.size + 1 + 1 + 1, 1, none⟩ (.slice none 0 0)) OE) B1.out.bel.size
 | true =>
  have A1 : Hid (okBt ss ts ⟨o, s, t, v⟩ ks vs = true) := hid hok.symm
  have h2 := hok.symm
  unfold okBt fitB at h2
  rw [Bool.and_eq_true, Bool.and_eq_true, decide_eq_true_iff, decide_eq_true_iff] at h2
  have HC := hid (chk_of h2.1)
  have BP := hid (bankP_of h2.2.1)
  have HV : Hid ((vs.length : Int) = v) := hid h2.2.2
  have e1 : kn = vn := by have := BP.out.1; rw [EK.out, EV.out] at this; exact this
  subst e1
  have HV2 : Hid (v = (kn : Int)) := hid (by rw [← HV.out, EV.out])
  have CB := hid (fun w' (hb : Below w.heap.size w w') => l3Boot_any so tq n sc tn tc ss ts ⟨o, s, t, v⟩ HC.out TL.out kA vA kn kc vc ks vs w' (HS.out w' hb).1 (HS.out w' hb).2.1 (HS.out w' hb).2.2 HI.out BP.out HV2.out)
  clear hs ht hk hv hi hok h2
  go_enter Tryz.func21, Tryz.ntmps21
  go_wp2_with (first
   | (go_at_call 53; refine CR.out.mono ?_; rintro e w1 ⟨rfl, hb⟩; have B1 := hid (EN.out.below hb); obtain ⟨c0, c1⟩ := two_cells B1.out.c; obtain ⟨p0, p1, _, _⟩ := pair_cells B1.out.b; clear hb)
   | (go_at_call 71; refine (CB.out _ B1.out.bel).mono ?_; rintro e w3 ⟨kv, vv, ee, rfl, ho, hb⟩; obtain ⟨ka, kcc, rfl⟩ := slice_of ho.k; obtain ⟨va, vcc, rfl⟩ := slice_of ho.v; obtain ⟨ea, ecc, rfl⟩ := slice_of ho.e; have B3 := hid (B1.out.below hb); have O3 := hid ho; have SZ := hid B1.out.bel.size; obtain ⟨z0, z1, z2, z3⟩ := pair_cells B3.out.r; have zl := lt_of_block B3.out.r; clear ho hb))
  obtain ⟨y0, y1⟩ := two_cells' (out_cells (u1 := .slice ka ks.length kcc) (u2 := .slice va (execS v ks 0 vs (bootS ss)).1.length vcc) B3.out.r)
  refine bodyPost_ret (v := .tuple #[.int .i64 (bootTo ss : Nat), .agg #[.slice ka ks.length kcc, .slice va (execS v ks 0 vs (bootS ss)).1.length vcc], .slice ea (execS v ks 0 vs (bootS ss)).2.length ecc]) (by simp [results, Tryz.results21, go_sem, y0, y1]) rfl ?_
  refine ⟨.slice ka ks.length kcc, .slice va (execS v ks 0 vs (bootS ss)).1.length vcc, .slice ea (execS v ks 0 vs (bootS ss)).2.length ecc, by rw [show btL ss ts ⟨o, s, t, v⟩ ks vs = (bootTo ss : Int) from by simp [btL, A1.out]], ?_, out_bel B3.out.bel (by omega)⟩
  simp only [btK, btV, btE, A1.out, if_true, HV.out]
  exact (O3.out.under SZ.out).set2 B3.out.r (by decide) (by decide) 0 1 _ _
end Go.Proofs.YtiimkhepplkocaaGreat

import Derived.Test.YtbcjlpjohknljaaGreatDoorPb
namespace Go.Proofs.YtbcjlpjohknljaaGreatDoor
open Go.RowKit Go.Sort
set_option linter.unusedVariables false
attribute [local go_sem ↓] Go.wp_at_zero Go.wp_at_succ

abbrev stmO : Obj := .cells #[.int .i64 0, .int .i64 0, .int .i64 0, .slice none 0 0] 75
/-- The box of the answer, and nothing that stood is turned. -/
structure StP (w X : World) : Prop where
  b : Below w.heap.size w X
  r : X.heap[w.heap.size]? = some (.cells #[.int .i64 0, .int .i64 0, .int .i64 0, .slice none 0 0] 75 (0, 0))
/-- And the box of the statement. -/
structure StQ (w : World) (H : Nat) (k a b : Int) (cv : Value) (X : World) : Prop where
  p : StP w X
  h : w.heap.size < H
  o : X.heap[H]? = some (.cells #[.int .i64 k, .int .i64 a, .int .i64 b, cv] 75 (0, 0))
theorem StP.below {w X Y : World} (h : StP w X) (hb : Below X.heap.size X Y) : StP w Y := ⟨h.b.trans (hb.mono h.b.size), block_below h.r hb⟩
theorem StQ.below {w X Y : World} {H : Nat} {k a b : Int} {cv : Value} (h : StQ w H k a b cv X) (hb : Below X.heap.size X Y) : StQ w H k a b cv Y := ⟨h.p.below hb, h.h, block_below h.o hb⟩

theorem formT_is (k : Int) : formT k = [] ∨ formT k = [97] ∨ formT k = [98] ∨ formT k = [97, 98] := by
  unfold formT
  cases giveA k <;> cases giveB k <;> simp
/-- What the letters of a form have given. -/
def walkF (f : List UInt8) (ns : List Int) : Nat → Int × Int
  | 0 => (0, 0)
  | j + 1 => if f.getD j 0 = 97 then (ns.getD j 0, (walkF f ns j).2) else ((walkF f ns j).1, ns.getD j 0)
theorem walkF_all (k : Int) (ns : List Int) : walkF (formT k) ns (formT k).length = (if giveA k then ns.getD 0 0 else 0, if giveB k then ns.getD (if giveA k then 1 else 0) 0 else 0) := by
  unfold formT
  cases giveA k <;> cases giveB k <;> simp [walkF]
theorem stmW_form {fs : List (List UInt8)} {n : Nat} {k : Int} (hl : fs.length = n + 1) (hk : 1 + placeN stmsL (fs.getD 0 []) 0 = k ∧ 0 ≤ placeN stmsL (fs.getD 0 []) 0) :
    stmW fs = match numsN fs.tail (formT k).length with
      | none => none
      | some ns => if formC k = true then (codeW (fs.tail.drop (formT k).length)).map (fun c => ⟨k, (walkF (formT k) ns (formT k).length).1, (walkF (formT k) ns (formT k).length).2, c⟩)
        else if fs.tail.length = (formT k).length then some ⟨k, (walkF (formT k) ns (formT k).length).1, (walkF (formT k) ns (formT k).length).2, []⟩ else none := by
  cases fs with
  | nil => simp at hl
  | cons x r =>
    simp only [List.getD_cons_zero] at hk
    simp only [stmW, if_neg (show ¬ placeN stmsL x 0 < 0 by omega), hk.1, walkF_all, List.tail_cons]
    cases numsN r (formT k).length <;> rfl
theorem StrsOf.drop {w : World} {b off n : Nat} {fs : List (List UInt8)} (h : StrsOf w (some ⟨b, off, none⟩) n fs) (m : Nat) (ao : Option Addr) (ha : ao = some ⟨b, off + m, none⟩ ∨ n - m = 0) : StrsOf w ao (n - m) (fs.drop m) := by
  refine ⟨by simp [h.1], fun hn => ?_⟩
  obtain ⟨b', off', e, hlt, hc⟩ := h.2 (by omega)
  simp only [Option.some.injEq, Addr.mk.injEq] at e
  obtain ⟨rfl, rfl, _⟩ := e
  rcases ha with rfl | ha
  · refine ⟨b, off + m, rfl, hlt, fun i hi => ?_⟩
    have := hc (i + m) (by omega)
    rw [show off + m + i = off + (i + m) by omega, this]
    simp [List.getD_eq_getElem?_getD, Nat.add_comm]
  · omega
theorem row_len0 {w : World} {B : Nat} {e : TypeId} {size : Nat} {ao : Option Addr} {k cap n : Nat} {xs : List Value} (h : w.ownsRow B e size (.slice ao k cap) n xs) : k = n := by
  rcases h.2 with ⟨h1, h2⟩ | ⟨g, cap, cur, h1, _⟩
  · simp only [Value.slice.injEq] at h1; omega
  · simp only [Value.slice.injEq] at h1; exact h1.2.1
theorem StQ.setA {w X : World} {H : Nat} {k a b : Int} {cv : Value} (h : StQ w H k a b cv X) (a' : Int) : StQ w H k a' b cv (X.setCell ⟨H, 1, none⟩ (.int .i64 a')) :=
  ⟨⟨h.p.b.setCell (p := ⟨H, 1, none⟩) (Nat.le_of_lt h.h) _, by rw [heap_setCell_other _ _ _ _ (Nat.ne_of_lt h.h)]; exact h.p.r⟩, h.h, by rw [heap_setCell_same _ _ _ _ _ _ h.o]; rfl⟩
theorem StQ.setB {w X : World} {H : Nat} {k a b : Int} {cv : Value} (h : StQ w H k a b cv X) (b' : Int) : StQ w H k a b' cv (X.setCell ⟨H, 2, none⟩ (.int .i64 b')) :=
  ⟨⟨h.p.b.setCell (p := ⟨H, 2, none⟩) (Nat.le_of_lt h.h) _, by rw [heap_setCell_other _ _ _ _ (Nat.ne_of_lt h.h)]; exact h.p.r⟩, h.h, by rw [heap_setCell_same _ _ _ _ _ _ h.o]; rfl⟩
theorem StQ.setC {w X : World} {H : Nat} {k a b : Int} {cv : Value} (h : StQ w H k a b cv X) (cv' : Value) : StQ w H k a b cv' (X.setCell ⟨H, 3, none⟩ cv') :=
  ⟨⟨h.p.b.setCell (p := ⟨H, 3, none⟩) (Nat.le_of_lt h.h) _, by rw [heap_setCell_other _ _ _ _ (Nat.ne_of_lt h.h)]; exact h.p.r⟩, h.h, by rw [heap_setCell_same _ _ _ _ _ _ h.o]; rfl⟩
theorem row_set_far {w : World} {B : Nat} {e : TypeId} {size : Nat} {v : Value} {n : Nat} {xs : List Value} (h : w.ownsRow B e size v n xs) {H o : Nat} (hH : H < B) (u : Value) : (w.setCell ⟨H, o, none⟩ u).ownsRow B e size v n xs := ownsRow_setCell_below h (a := ⟨H, o, none⟩) hH u
theorem row_hasS {w : World} {B : Nat} {t : TypeId} {sz n : Nat} {v : Value} {xs : List Value} (h : w.ownsRow B t sz v n xs) (hn : 0 < n) : ∃ g cap, v = .slice (some ⟨g, 0, none⟩) n cap ∧ n ≤ cap ∧ cap ≤ maxLen ∧ B ≤ g ∧ g < w.heap.size := by
  rcases h.2 with ⟨_, h0⟩ | ⟨g, cap, cur, hv, hb, hg, hc, hm, _⟩
  · omega
  · exact ⟨g, cap, hv, hc, hm, hb, lt_of_block hg⟩
theorem row_base0 {w : World} {b1 b2 : Nat} {e : TypeId} {size : Nat} {v : Value} {n : Nat} {xs : List Value} (h : w.ownsRow b1 e size v n xs) (hb : b2 ≤ b1) : w.ownsRow b2 e size v n xs := by
  refine ⟨h.1, ?_⟩
  rcases h.2 with h | ⟨g, cap, cur, h1, h2, h3⟩
  · exact .inl h
  · exact .inr ⟨g, cap, cur, h1, by omega, h3⟩
theorem StP.box {w X : World} (h : StP w X) (k a b : Int) (cv : Value) : StQ w X.heap.size k a b cv (X.alloc (.cells #[.int .i64 k, .int .i64 a, .int .i64 b, cv] 75)) := ⟨h.below (below1 _ _), by have := lt_of_block h.r; omega, heap_alloc_new _ _⟩
theorem StQ.quad {w X : World} {H : Nat} {k a b : Int} {cv : Value} (h : StQ w H k a b cv X) (k' a' b' : Int) (cv' : Value) : StQ w H k' a' b' cv' ((((X.setCell ⟨H, 0, none⟩ (.int .i64 k')).setCell ⟨H, 1, none⟩ (.int .i64 a')).setCell ⟨H, 2, none⟩ (.int .i64 b')).setCell ⟨H, 3, none⟩ cv') :=
  ⟨⟨below_quad h.p.b (Nat.le_of_lt h.h) _ _ _ _, by
    have e : w.heap.size ≠ H := Nat.ne_of_lt h.h
    rw [heap_setCell_other _ _ _ _ e, heap_setCell_other _ _ _ _ e, heap_setCell_other _ _ _ _ e, heap_setCell_other _ _ _ _ e]; exact h.p.r⟩, h.h, quad_set h.o _ _ _ _⟩

set_option maxRecDepth 100000 in
set_option maxHeartbeats 3200000 in
theorem stm_yes (b off n c : Nat) (fs : List (List UInt8)) (w : World) (hm : n + 1 ≤ 1048576) (hcn : n + 1 ≤ c) (hf : ∀ f ∈ fs, f.length ≤ 1048576) (h : StrsOf w (some ⟨b, off, none⟩) (n + 1) fs) (hx : 0 ≤ placeN stmsL (fs.getD 0 []) 0) : Calls Tryz.prog 25 #[.slice (some ⟨b, off, none⟩) (n + 1) c] w fun e w' => stR w w' fs e ∧ Below w.heap.size w w' := by
  obtain ⟨c0, hbl, hT⟩ := h.one
  have HT := hid hT
  have HS := hid h
  have HF := hid hf
  have HL := hid h.1
  obtain ⟨t, ht⟩ : ∃ t : ByteArray, t = ⟨(fs.getD 0 []).toArray⟩ := ⟨_, rfl⟩
  have c1 : w.cell? ⟨b, off, none⟩ = some (.string t) := by rw [ht]; exact c0
  have hbt : fs.getD 0 [] = bl t := ba_bl.1 ht.symm
  have EP : Hid (placeN stmsL (fs.getD 0 []) 0 = placeN stmsL (bl t) 0) := hid (by rw [hbt])
  rw [hbt] at hx
  have hx9 := placeN_lt stmsL (bl t) 0
  obtain ⟨p, hp⟩ : ∃ p, p = placeN stmsL (bl t) 0 := ⟨_, rfl⟩
  have NM := hid (fun W => stmsN_any W)
  have PL := hid (fun W g (h : StrsOf W (some ⟨g, 0, none⟩) 9 stmsL) => l5Place_any (some ⟨g, 0, none⟩) 9 9 stmsL t W (by omega) h)
  rw [← hp] at PL hx EP hx9
  simp only [stmsL, List.length_cons, List.length_nil] at hx9
  have hpn : ¬ p < 0 := by omega
  have hp9 : p < 9 := by omega
  have P1 := hid (StP.mk (below1 w stmO) (heap_alloc_new w stmO))
  have hlen : (((n + 1 : Nat) : Int) == 0) = false := by simp; omega
  have hlen2 : ((n : Int) + 1 == 0) = false := by simp; omega
  have CB : Hid (∀ Y, Below w.heap.size w Y → Y.cell? ⟨b, off, none⟩ = some (.string t)) := hid (fun Y hY => (hY.cell (p := ⟨b, off, none⟩) hbl).trans c1)
  clear h hp c0 ht hbt hT hx9
  have X1 := hid (CB.out _ P1.out.b)
  go_enter Tryz.func25, Tryz.ntmps25
  go_upto_region 1 with fail
  go_cut [23] (fun c wx => c = .bool false ∧ StP w wx)
  case first =>
    have k0 := X1.out
    go_region_held3 (fun X => X.cell? ⟨b, off, none⟩ = some (.string t)) (first | (with_reducible exact KX.out) | go_keep)
      (first
        | (go_at_call 40; refine (NM.out _).mono ?_; rintro e w1 ⟨g1, rfl, hs1, hb1⟩; have S1 := hid hs1; have Q1 := hid ((P1.out.below (Below.refl _ _).drew).below hb1); have KX := hid (CB.out _ Q1.out.b); clear hs1 hb1)
        | (go_at_call 21; with_reducible refine (PL.out _ _ S1.out).mono ?_; rintro e w3 ⟨rfl, hw3⟩; obtain rfl := hw3.symm))
    all_goals
      go_wp2
      go_meet
      exact ⟨by simp [hpn], Q1.out⟩
  case rest =>
    obtain ⟨rfl, hP⟩ := hcut
    obtain ⟨V, hV⟩ : ∃ V, V = wc := ⟨_, rfl⟩
    subst hV
    have PV := hid hP
    have k0 := CB.out _ hP.b
    clear hP
    go_upto_region 3 with fail
    go_cut [4] (fun s4 wx => ∃ H, s4 = .pointer (some ⟨H, 0, none⟩) ∧ StQ w H (1 + p) 0 0 (.slice none 0 0) wx)
    case first =>
      have wp1 : IntKind.i64.wrap (1 + p) = 1 + p := IntWalk.i64_in _ (by omega)
      have PD := hid (PV.out.below (Below.refl _ _).drew)
      have QD := hid ((PV.out.box 0 0 0 (.slice none 0 0)).below (Below.refl _ _).drew)
      go_region_held3 (fun X => X.cell? ⟨b, off, none⟩ = some (.string t)) (first | (with_reducible exact KX.out) | (with_reducible exact CB.out _ (Q1.out.below (below1 _ _)).b) | (with_reducible exact CB.out _ (Z1.out.quad _ _ _ _).p.b) | go_keep)
        (first
          | (go_at_call 40; refine (NM.out _).mono ?_; rintro e w1 ⟨g1, rfl, hs1, hb1⟩; have S1 := hid hs1; (first | (have Q1 := hid (PD.out.below hb1); have KX := hid (CB.out _ Q1.out.b)) | (have Z1 := hid (QD.out.below hb1); have KX := hid (CB.out _ Z1.out.p.b); obtain ⟨z0, z1, z2, z3⟩ := four_cellsS Z1.out.o; have f0 := frozS Z1.out.o 0; have f1 := frozS Z1.out.o 1; have f2 := frozS Z1.out.o 2; have f3 := frozS Z1.out.o 3; have zl := lt_of_block Z1.out.o)); clear hs1 hb1)
          | (go_at_call 21; with_reducible refine (PL.out _ _ S1.out).mono ?_; rintro e w3 ⟨rfl, hw3⟩; obtain rfl := hw3.symm)
          | (go_at_call 21; with_reducible refine (PL.out _ _ (S1.out.below (below1 w1 stmO))).mono ?_; rintro e w3 ⟨rfl, hw3⟩; obtain rfl := hw3.symm; have Z1 := hid (Q1.out.box 0 0 0 (.slice none 0 0)); have KX := hid (CB.out _ Z1.out.p.b); obtain ⟨z0, z1, z2, z3⟩ := four_cellsS Z1.out.o; have f0 := frozS Z1.out.o 0; have f1 := frozS Z1.out.o 1; have f2 := frozS Z1.out.o 2; have f3 := frozS Z1.out.o 3; have zl := lt_of_block Z1.out.o))
      all_goals
        go_wp2
        go_meet
        first
          | exact ⟨_, rfl, Q1.out.box (1 + p) 0 0 (.slice none 0 0)⟩
          | exact ⟨_, rfl, Z1.out.quad _ _ _ _⟩
    case rest =>
      obtain ⟨H, rfl, hQ⟩ := hcut
      obtain ⟨V2, hV2⟩ : ∃ V, V = wc := ⟨_, rfl⟩
      subst hV2
      have Q2 := hid hQ
      clear hQ k0 PV NM PL CB X1 P1 hlen hlen2 c1 hpn
      obtain ⟨k, hk⟩ : ∃ k, k = 1 + p := ⟨_, rfl⟩
      have hk1 : 1 ≤ k := by omega
      have hk9 : k ≤ 9 := by omega
      have EK : Hid (1 + placeN stmsL (fs.getD 0 []) 0 = k ∧ 0 ≤ placeN stmsL (fs.getD 0 []) 0) := hid (by rw [EP.out]; omega)
      rw [← hk] at Q2
      clear hk EP hx hp9
      have CF := hid (fun W => form_any k W hk1 hk9)
      obtain ⟨f, hf0⟩ : ∃ f, f = formT k := ⟨_, rfl⟩
      have EF := hid hf0
      rw [← hf0] at CF
      have hff := formT_is k
      rw [← hf0] at hff
      have hfl : f.length ≤ 2 := by rcases hff with rfl | rfl | rfl | rfl <;> simp
      clear hf0
      obtain ⟨d0, d1, d2, d3⟩ := four_cellsS Q2.out.o
      have dl := lt_of_block Q2.out.o
      go_upto_region 5 with (go_at_call 41; refine (CF.out _).mono ?_; rintro e w1 ⟨rfl, hw1⟩; obtain rfl := hw1.symm)
      have NT : Hid (∀ W ao, Below w.heap.size w W → (ao = some ⟨b, off + 1, none⟩ ∨ n = 0) → Calls Tryz.prog 19 #[.slice ao n (c - 1), .int .i64 (f.length : Int)] W fun e w' => (∃ v, e = .returned (.tuple #[v, .bool (numsN fs.tail f.length).isSome]) ∧ (∃ a l c, v = .slice a l c) ∧ ∀ zs, numsN fs.tail f.length = some zs → IntRow w' W.heap.size v zs) ∧ Below W.heap.size W w') := hid (fun W ao hW ha => l5Numbers_any ao n (c - 1) f.length fs.tail W (by omega) (by omega) (fun x hx => HF.out x (List.mem_of_mem_tail hx)) ((HT.out ao ha).below hW))
      have hcl : ∀ (hc1 : c = 1), n = 0 := by omega
      go_cut [7, 8] from 38 to 45 (fun v ok wx => ∃ a l cp, v = .slice a l cp ∧ ok = .bool (numsN fs.tail f.length).isSome ∧ (∀ zs, numsN fs.tail f.length = some zs → IntRow wx V2.heap.size v zs) ∧ Below V2.heap.size V2 wx)
      case first =>
        have b2 := hid Q2.out.p.b
        by_cases hc1 : c = 1
        · obtain rfl := hcl hc1
          subst hc1
          clear hcl hm hcn
          go_wp2_with (go_at_call 19; refine (NT.out _ _ b2.out (.inr rfl)).mono ?_; rintro e w2 ⟨⟨v, rfl, ⟨a1, l1, p1, rfl⟩, hi⟩, hb⟩; have HI := hid hi; have HB := hid hb; clear hi hb)
          go_meet
          exact ⟨_, _, _, rfl, rfl, HI.out, HB.out⟩
        · clear hcl
          go_wp2_with (go_at_call 19; refine (NT.out _ _ b2.out (.inl rfl)).mono ?_; rintro e w2 ⟨⟨v, rfl, ⟨a1, l1, p1, rfl⟩, hi⟩, hb⟩; have HI := hid hi; have HB := hid hb; clear hi hb)
          go_meet
          exact ⟨_, _, _, rfl, rfl, HI.out, HB.out⟩
      case rest =>
        obtain ⟨na, nl, nc, rfl, rfl, hi, hb⟩ := hcut
        obtain ⟨V3, hV3⟩ : ∃ V, V = wc := ⟨_, rfl⟩
        subst hV3
        have Q3 := hid (Q2.out.below hb)
        have BV : Hid (V2.heap.size ≤ V3.heap.size) := hid hb.size
        have HH : Hid (H < V2.heap.size) := hid dl
        clear hb d0 d1 d2 d3 dl
        obtain ⟨d0, d1, d2, d3⟩ := four_cellsS Q3.out.o
        have dl := lt_of_block Q3.out.o
        cases hns : numsN fs.tail f.length with
        | none =>
          have NO : Hid (stmW fs = none) := hid (by rw [stmW_form HL.out EK.out, ← EF.out, hns])
          obtain ⟨y0, y1, y2, y3⟩ := four_cellsS Q3.out.p.r
          have g0 := frozS Q3.out.p.r 0
          have g1 := frozS Q3.out.p.r 1
          have g2 := frozS Q3.out.p.r 2
          have g3 := frozS Q3.out.p.r 3
          have gl := lt_of_block Q3.out.p.r
          clear hi hns
          go_wp2
          obtain ⟨u0, u1, u2, u3⟩ := four_cellsS (quad_set Q3.out.p.r (.int .i64 k) (.int .i64 0) (.int .i64 0) (.slice none 0 0))
          exact bodyPost_ret (v := .tuple #[.agg #[.int .i64 k, .int .i64 0, .int .i64 0, .slice none 0 0], .bool false]) (by simp [results, Tryz.results25, go_sem, u0, u1, u2, u3]) rfl ⟨stR_no NO.out _ _ _ _ _ _, below_quad Q3.out.p.b (Nat.le_refl _) _ _ _ _⟩
        | some ns =>
          have hi := hi ns hns
          have hnl : ns.length = f.length ∧ f.length ≤ n := by
            have e := hns
            unfold numsN at e
            split at e
            · rename_i hq
              have h1 := nums_len e
              have h2 : fs.tail.length = n := by rw [List.length_tail, HL.out]; omega
              rw [h2] at hq
              exact ⟨by rw [h1, List.length_take, h2]; omega, hq⟩
            · cases e
          have EW : Hid (stmW fs = if formC k = true then (codeW (fs.tail.drop f.length)).map (fun c => ⟨k, (walkF f ns f.length).1, (walkF f ns f.length).2, c⟩) else if fs.tail.length = f.length then some ⟨k, (walkF f ns f.length).1, (walkF f ns f.length).2, []⟩ else none) := hid (by rw [stmW_form HL.out EK.out, ← EF.out, hns])
          have hn1 : nl = ns.length := row_len0 hi
          subst hn1
          have NI := hid hi
          clear hi hns
          clear d0 d1 d2 d3 dl NT CF HT
          go_wp2_with fail
          go_loopw [9] (fun i wr => ∃ j : Nat, j ≤ f.length ∧ i = .int .i64 j ∧ Hid (StQ w H k (walkF f ns j).1 (walkF f ns j).2 (.slice none 0 0) wr) ∧ Hid (IntRow wr V2.heap.size (.slice na ns.length nc) ns)) (fun i _ => f.length - (intOf i).toNat)
          case atStart => exact ⟨0, Nat.zero_le _, rfl, Q3, NI⟩
          case round =>
            obtain ⟨j, hj, rfl, QJ, IJ⟩ := hrel
            obtain ⟨d0, d1, d2, d3⟩ := four_cellsS QJ.out.o
            have f1 := frozS QJ.out.o 1
            have f2 := frozS QJ.out.o 2
            have f3 := frozS QJ.out.o 3
            have dl := lt_of_block QJ.out.o
            by_cases hjl : j < f.length
            · obtain ⟨g, cp, e1, _, _, hg, hgl⟩ := row_hasS IJ.out (by omega)
              simp only [Value.slice.injEq] at e1
              obtain ⟨rfl, _, rfl⟩ := e1
              have cj : wr.cell? ⟨g, j, none⟩ = some (.int .i64 (ns.getD j 0)) := by
                rw [World.ownsRow.cellAt IJ.out j (by omega)]
                simp [List.getD_eq_getElem?_getD, show j < ns.length by omega]
              obtain ⟨z, hz⟩ : ∃ z, z = ns.getD j 0 := ⟨_, rfl⟩
              rw [← hz] at cj
              have QA := hid (QJ.out.setA z)
              have QB := hid (QJ.out.setB z)
              have RA : Hid (f.getD j 0 = 97 → StQ w H k (walkF f ns (j + 1)).1 (walkF f ns (j + 1)).2 (.slice none 0 0) (wr.setCell ⟨H, 1, none⟩ (.int .i64 z))) := hid (fun e => by simp only [walkF, e, if_true, ← hz]; exact QA.out)
              have RB : Hid (f.getD j 0 ≠ 97 → StQ w H k (walkF f ns (j + 1)).1 (walkF f ns (j + 1)).2 (.slice none 0 0) (wr.setCell ⟨H, 2, none⟩ (.int .i64 z))) := hid (fun e => by simp only [walkF, e, if_false, ← hz]; exact QB.out)
              have hjn : (j : Int) < (ns.length : Int) := by omega
              have hj2 : j = 0 ∨ j = 1 := by omega
              have HHo := HH.out
              clear hz QA QB
              rcases hff with rfl | rfl | rfl | rfl <;> rcases hj2 with rfl | rfl
              all_goals first
                | (exfalso; simp at hjl; done)
                | (go_wp2_with fail
                   go_roundw
                   case rel => first
                     | exact ⟨1, by simp, by go_num, hid (RA.out rfl), hid (row_set_far IJ.out HHo _)⟩
                     | exact ⟨1, by simp, by go_num, hid (RB.out (by decide)), hid (row_set_far IJ.out HHo _)⟩
                     | exact ⟨2, by simp, by go_num, hid (RB.out (by decide)), hid (row_set_far IJ.out HHo _)⟩
                   case measure => simp [intOf])
            · have ej : j = f.length := by omega
              subst ej
              obtain ⟨A, hA⟩ : ∃ A, A = (walkF f ns f.length).1 := ⟨_, rfl⟩
              obtain ⟨B, hB⟩ : ∃ B, B = (walkF f ns f.length).2 := ⟨_, rfl⟩
              rw [← hA, ← hB] at EW QJ
              rw [← hA] at d1
              rw [← hB] at d2
              have TL : Hid (fs.tail.length = n) := hid (by rw [List.length_tail, HL.out]; omega)
              have CC : Hid (∀ W ao cp, Below w.heap.size w W → (ao = some ⟨b, off + (1 + f.length), none⟩ ∨ n - f.length = 0) → Calls Tryz.prog 24 #[.slice ao (n + 1 - (1 + f.length)) cp] W fun e w' => (∃ v, e = .returned (.tuple #[v, .bool (codeW (fs.tail.drop f.length)).isSome]) ∧ (∃ a l c, v = .slice a l c) ∧ ∀ its, codeW (fs.tail.drop f.length) = some its → ItRow w' W.heap.size v its) ∧ Below W.heap.size W w') := hid (fun W ao cp hW ha => by
                have := (HS.out.below hW).drop (1 + f.length) ao (by rcases ha with ha | ha; exact .inl ha; exact .inr (by omega))
                rw [show fs.drop (1 + f.length) = fs.tail.drop f.length by rw [← List.drop_drop, List.drop_one]] at this
                exact l5Code_any ao _ cp _ W (by omega) (fun x hx => HF.out x (List.mem_of_mem_tail (List.mem_of_mem_drop hx))) this)
              have hfn := hnl.2
              clear hA hB hj hjl IJ NI hnl
              cases hC : formC k with
              | true =>
                have YW : Hid (stmW fs = (codeW (fs.tail.drop f.length)).map (fun c => ⟨k, A, B, c⟩)) := hid (by rw [EW.out, hC, if_pos rfl])
                have bJ := hid QJ.out.p.b
                have sJ := hid QJ.out.p.b.size
                have CX : Hid (∀ a l cp w1, (∀ its, codeW (fs.tail.drop f.length) = some its → ItRow w1 wr.heap.size (.slice a l cp) its) → Below wr.heap.size wr w1 → ∀ Y, Y = ((((w1.setCell ⟨H, 3, none⟩ (.slice a l cp)).setCell ⟨w.heap.size, 0, none⟩ (.int .i64 k)).setCell ⟨w.heap.size, 1, none⟩ (.int .i64 A)).setCell ⟨w.heap.size, 2, none⟩ (.int .i64 B)).setCell ⟨w.heap.size, 3, none⟩ (.slice a l cp) → stR w Y fs (.returned (.tuple #[.agg #[.int .i64 k, .int .i64 A, .int .i64 B, .slice a l cp], .bool (codeW (fs.tail.drop f.length)).isSome])) ∧ Below w.heap.size w Y) := hid (by
                  rintro a l cp w1 hi hb Y rfl
                  have q := (QJ.out.below hb).setC (.slice a l cp)
                  refine ⟨⟨k, A, B, a, l, cp, by rw [YW.out, Option.isSome_map], fun x hx => ?_⟩, below_quad q.p.b (Nat.le_refl _) _ _ _ _⟩
                  rw [YW.out] at hx
                  cases hcw : codeW (fs.tail.drop f.length) with
                  | none => rw [hcw] at hx; cases hx
                  | some its =>
                    rw [hcw] at hx
                    simp only [Option.map_some, Option.some.injEq] at hx
                    subst hx
                    refine ⟨⟨rfl, rfl, rfl⟩, ?_⟩
                    have i1 := hi its hcw
                    have hHw : H < wr.heap.size := dl
                    have hww : w.heap.size < wr.heap.size := Nat.lt_of_lt_of_le (lt_of_block QJ.out.p.r) (Nat.le_refl _)
                    exact row_base0 (row_set_far (row_set_far (row_set_far (row_set_far (row_set_far i1 hHw _) hww _) hww _) hww _) hww _) sJ.out)
                have QW : Hid (∀ w1 cv, Below wr.heap.size wr w1 → StQ w H k A B cv (w1.setCell ⟨H, 3, none⟩ cv)) := hid (fun w1 cv hb => (QJ.out.below hb).setC cv)
                clear EW hC YW
                by_cases hc2 : c = 1 + f.length
                · have ee : n - f.length = 0 := by omega
                  go_wp2_with (go_at_call 24; refine (CC.out _ _ _ bJ.out (.inr ee)).mono ?_; rintro e w1 ⟨⟨v, rfl, ⟨a1, l1, p1, rfl⟩, hi⟩, hb⟩; have q1 := QJ.out.below hb; obtain ⟨e0, e1, e2, e3⟩ := four_cellsS q1.o; have g3 := frozS q1.o 3; have el := lt_of_block q1.o; have q2 := QW.out w1 (.slice a1 l1 p1) hb; obtain ⟨v0, v1, v2, v3⟩ := four_cellsS q2.o; obtain ⟨y0, y1, y2, y3⟩ := four_cellsS q2.p.r; have y4 := frozS q2.p.r 0; have y5 := frozS q2.p.r 1; have y6 := frozS q2.p.r 2; have y7 := frozS q2.p.r 3; have gl := lt_of_block q2.p.r; have U := hid (quad_set q2.p.r (.int .i64 k) (.int .i64 A) (.int .i64 B) (.slice a1 l1 p1)); have HI := hid hi; have HB := hid hb; clear hi hb q1 q2)
                  obtain ⟨u0, u1, u2, u3⟩ := four_cellsS U.out
                  exact bodyPost_ret (v := .tuple #[.agg #[.int .i64 k, .int .i64 A, .int .i64 B, .slice a1 l1 p1], .bool (codeW (fs.tail.drop f.length)).isSome]) (by simp [results, Tryz.results25, go_sem, u0, u1, u2, u3]) rfl (CX.out _ _ _ _ HI.out HB.out _ rfl)
                · go_wp2_with (go_at_call 24; refine (CC.out _ _ _ bJ.out (.inl rfl)).mono ?_; rintro e w1 ⟨⟨v, rfl, ⟨a1, l1, p1, rfl⟩, hi⟩, hb⟩; have q1 := QJ.out.below hb; obtain ⟨e0, e1, e2, e3⟩ := four_cellsS q1.o; have g3 := frozS q1.o 3; have el := lt_of_block q1.o; have q2 := QW.out w1 (.slice a1 l1 p1) hb; obtain ⟨v0, v1, v2, v3⟩ := four_cellsS q2.o; obtain ⟨y0, y1, y2, y3⟩ := four_cellsS q2.p.r; have y4 := frozS q2.p.r 0; have y5 := frozS q2.p.r 1; have y6 := frozS q2.p.r 2; have y7 := frozS q2.p.r 3; have gl := lt_of_block q2.p.r; have U := hid (quad_set q2.p.r (.int .i64 k) (.int .i64 A) (.int .i64 B) (.slice a1 l1 p1)); have HI := hid hi; have HB := hid hb; clear hi hb q1 q2)
                  obtain ⟨u0, u1, u2, u3⟩ := four_cellsS U.out
                  exact bodyPost_ret (v := .tuple #[.agg #[.int .i64 k, .int .i64 A, .int .i64 B, .slice a1 l1 p1], .bool (codeW (fs.tail.drop f.length)).isSome]) (by simp [results, Tryz.results25, go_sem, u0, u1, u2, u3]) rfl (CX.out _ _ _ _ HI.out HB.out _ rfl)
              | false =>
                have YW : Hid (stmW fs = if n = f.length then some ⟨k, A, B, []⟩ else none) := hid (by rw [EW.out, hC, if_neg (by simp), TL.out])
                have CX : Hid (stR w ((((wr.setCell ⟨w.heap.size, 0, none⟩ (.int .i64 k)).setCell ⟨w.heap.size, 1, none⟩ (.int .i64 A)).setCell ⟨w.heap.size, 2, none⟩ (.int .i64 B)).setCell ⟨w.heap.size, 3, none⟩ (.slice none 0 0)) fs (.returned (.tuple #[.agg #[.int .i64 k, .int .i64 A, .int .i64 B, .slice none 0 0], .bool (decide (n = f.length))])) ∧ Below w.heap.size w ((((wr.setCell ⟨w.heap.size, 0, none⟩ (.int .i64 k)).setCell ⟨w.heap.size, 1, none⟩ (.int .i64 A)).setCell ⟨w.heap.size, 2, none⟩ (.int .i64 B)).setCell ⟨w.heap.size, 3, none⟩ (.slice none 0 0))) := hid (by
                  refine ⟨⟨k, A, B, none, 0, 0, by rw [YW.out]; split <;> simp_all, fun x hx => ?_⟩, below_quad QJ.out.p.b (Nat.le_refl _) _ _ _ _⟩
                  rw [YW.out] at hx
                  split at hx
                  · simp only [Option.some.injEq] at hx
                    subst hx
                    exact ⟨⟨rfl, rfl, rfl⟩, World.ownsRow_nil _ _ _ _⟩
                  · cases hx)
                obtain ⟨y0, y1, y2, y3⟩ := four_cellsS QJ.out.p.r
                have y4 := frozS QJ.out.p.r 0
                have y5 := frozS QJ.out.p.r 1
                have y6 := frozS QJ.out.p.r 2
                have y7 := frozS QJ.out.p.r 3
                have gl := lt_of_block QJ.out.p.r
                have U := hid (quad_set QJ.out.p.r (.int .i64 k) (.int .i64 A) (.int .i64 B) (.slice none 0 0))
                have hq : ((((n + 1 - (1 + f.length) : Nat)) : Int) == 0) = decide (n = f.length) := by
                  by_cases e : n = f.length
                  · simp [e]; omega
                  · rw [decide_eq_false e]; simp; omega
                clear EW hC YW CC
                by_cases hc2 : c = 1 + f.length
                · go_wp2_with fail
                  obtain ⟨u0, u1, u2, u3⟩ := four_cellsS U.out
                  exact bodyPost_ret (v := .tuple #[.agg #[.int .i64 k, .int .i64 A, .int .i64 B, .slice none 0 0], .bool (decide (n = f.length))]) (by simp [results, Tryz.results25, go_sem, u0, u1, u2, u3]) rfl CX.out
                · go_wp2_with fail
                  obtain ⟨u0, u1, u2, u3⟩ := four_cellsS U.out
                  exact bodyPost_ret (v := .tuple #[.agg #[.int .i64 k, .int .i64 A, .int .i64 B, .slice none 0 0], .bool (decide (n = f.length))]) (by simp [results, Tryz.results25, go_sem, u0, u1, u2, u3]) rfl CX.out
end Go.Proofs.YtbcjlpjohknljaaGreatDoor

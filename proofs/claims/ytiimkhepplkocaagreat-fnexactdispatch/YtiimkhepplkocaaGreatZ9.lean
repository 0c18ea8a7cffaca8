import Derived.Test.YtiimkhepplkocaaGreatZb
namespace Go.Proofs.YtiimkhepplkocaaGreat
open Go.RowKit Go.Sort
set_option linter.unusedVariables false
attribute [local go_sem ↓] Go.wp_at_zero Go.wp_at_succ

def Each (X : World) (l : LimD) (LS : List Value) (xs : List (List StmD)) : Prop := xs.length = LS.length ∧ ∀ i, i < LS.length → StmR X 0 l (LS.getD i undef) (xs.getD i [])
theorem each_append {X : World} {l : LimD} {A C : List Value} {a c : List (List StmD)} (h1 : Each X l A a) (h2 : Each X l C c) : Each X l (A ++ C) (a ++ c) := by
  refine ⟨by simp [h1.1, h2.1], fun i hi => ?_⟩
  have e := h1.1
  simp only [List.getD_eq_getElem?_getD]
  by_cases h : i < A.length
  · rw [List.getElem?_append_left h, List.getElem?_append_left (by omega)]
    simpa only [List.getD_eq_getElem?_getD] using h1.2 i h
  · rw [List.getElem?_append_right (by omega), List.getElem?_append_right (by omega), e]
    rw [List.length_append] at hi
    simpa only [List.getD_eq_getElem?_getD] using h2.2 (i - A.length) (by omega)
theorem each_map {X : World} {l : LimD} {f : Nat → Value} {g : Nat → List StmD} {K : List Nat} (h : ∀ x, x ∈ K → StmR X 0 l (f x) (g x)) : Each X l (K.map f) (K.map g) := by
  refine ⟨by simp, fun i hi => ?_⟩
  rw [List.length_map] at hi
  simp only [List.getD_eq_getElem?_getD, List.getElem?_map, List.getElem?_eq_getElem hi, Option.map_some, Option.getD_some]
  exact h _ (List.getElem_mem hi)
theorem each_one {X : World} {l : LimD} {v : Value} {x : List StmD} (h : StmR X 0 l v x) : Each X l [v] [x] := ⟨rfl, fun i hi => by
  obtain rfl : i = 0 := by simpa using hi
  simpa using h⟩
theorem StmR.base {X : World} {B : Nat} {l : LimD} {v : Value} {xs : List StmD} (h : StmR X B l v xs) : StmR X 0 l v xs := by
  obtain ⟨vs, h1, h2⟩ := h
  exact ⟨vs, h1, ownsRow_base h2 (Nat.zero_le _)⟩
abbrev set5 (X : World) (r : Nat) (a b c d e : Value) : World := ((((X.setCell ⟨r, 0, none⟩ a).setCell ⟨r, 1, none⟩ b).setCell ⟨r, 2, none⟩ c).setCell ⟨r, 3, none⟩ d).setCell ⟨r, 4, none⟩ e
theorem row5 {X : World} {r : Nat} {a b c d e x0 x1 x2 x3 x4 : Value} {t : TypeId} (h : X.heap[r]? = some (.cells #[x0, x1, x2, x3, x4] t (0, 0))) : (set5 X r a b c d e).heap[r]? = some (.cells #[a, b, c, d, e] t (0, 0)) := by
  have m1 := heap_setCell_same X r 0 _ _ a h
  have m2 := heap_setCell_same _ r 1 _ _ b m1
  have m3 := heap_setCell_same _ r 2 _ _ c m2
  have m4 := heap_setCell_same _ r 3 _ _ d m3
  have m5 := heap_setCell_same _ r 4 _ _ e m4
  rw [m5]; simp
theorem bel5 {w X : World} {C r : Nat} {a b c d e : Value} (h : Below C w X) (hr : C ≤ r) : Below C w (set5 X r a b c d e) := ((((h.setCell hr _).setCell hr _).setCell hr _).setCell hr _).setCell hr _
theorem turn5 {S : Nat → Prop} {X : World} {r : Nat} {a b c d e x0 x1 x2 x3 x4 : Value} {t : TypeId} (h : X.heap[r]? = some (.cells #[x0, x1, x2, x3, x4] t (0, 0))) (ht : S t) : Turn S 0 X (set5 X r a b c d e) := by
  have m1 := heap_setCell_same X r 0 _ _ a h
  have m2 := heap_setCell_same _ r 1 _ _ b m1
  have m3 := heap_setCell_same _ r 2 _ _ c m2
  have m4 := heap_setCell_same _ r 3 _ _ d m3
  exact ((((Turn.set h ht (Nat.zero_le _) _).trans (Turn.set m1 ht (Nat.zero_le _) _)).trans (Turn.set m2 ht (Nat.zero_le _) _)).trans (Turn.set m3 ht (Nat.zero_le _) _)).trans (Turn.set m4 ht (Nat.zero_le _) _)
theorem one_cell {w : World} {H : Nat} {a : Value} {t : TypeId} (k : w.heap[H]? = some (.cells #[a] t (0, 0))) : w.cell? ⟨H, 0, none⟩ = some a := by simp [World.cell?, k]
set_option maxRecDepth 100000 in
set_option maxHeartbeats 8000000 in
theorem compileRow_any {w0 : World} {cx lx : Array Value} {N : Nat → Nat} {tg tcap : Nat} {ss : List StD} {ts : List TrD} {n : Nat} {l : LimD} {B P0 M tn : Nat} {E F : List Value} {ev xv : Value} {L lets act : Nat → Value} (tr nx : Int) (ge ce gn cn : Nat) (ex en : List Nat) (ao : Option Addr) (an ac : Nat) (acts : List StmD) (w : World) (h : L2 w0 cx lx N tg tcap ss ts n l B P0 M tn E F ev xv L lets act w)
    (hx2 : ex.length ≤ 400) (hn2 : en.length ≤ 400) (hex : ∀ x, x ∈ ex → x < n) (hen : ∀ x, x ∈ en → x < n) (oge : w.ownsRow 0 3 1 (.slice (some ⟨ge, 0, none⟩) ex.length ce) ex.length (ints ex)) (ogn : w.ownsRow 0 3 1 (.slice (some ⟨gn, 0, none⟩) en.length cn) en.length (ints en)) (hac : StmR w 0 l (.slice ao an ac) acts) :
    Calls Tryz.prog 125 #[.pointer (some ⟨M, 0, none⟩), .agg #[.int .i64 tr, .slice (some ⟨ge, 0, none⟩) ex.length ce, .slice (some ⟨gn, 0, none⟩) en.length cn, .int .i64 nx], .slice ao an ac] w fun e w' => ∃ P lv, e = .returned (.agg #[.int .i64 tr, .slice (some ⟨ge, 0, none⟩) ex.length ce, .slice (some ⟨gn, 0, none⟩) en.length cn, .int .i64 nx, .func (.func 163) #[] #[.pointer (some ⟨P, 0, none⟩)]]) ∧
      Lists w' l P lv (ex.map (fun i => F.getD i undef) ++ [.slice ao an ac] ++ en.map (fun i => E.getD i undef)) (ex.map (fun i => (ss.getD i st0).exit) ++ [acts] ++ en.map (fun i => (ss.getD i st0).entry)) ∧ Below w.heap.size w w' := by
  have hmf : ∀ (fn : Fn) (first cap : Array Value) (w : World), (Instr.makeFunc fn first cap).run Tryz.prog w = .ok (.func fn first cap) w := fun _ _ _ _ => rfl
  obtain ⟨i0, hi0, hz0, hz1, hz2⟩ := info_parts infoS_stmNode
  have HI := hid h
  have Hex := hid hex
  have Hen := hid hen
  have HAC := hid hac
  have CEge : Hid (∀ j, j < ex.length → w.cell? ⟨ge, j, none⟩ = some (.int .i64 ((ex.getD j 0 : Nat) : Int))) := hid (fun j hj => by rw [World.ownsRow.cellAt oge j (by omega)]; simp [ints, List.getElem?_eq_getElem hj])
  have CEgn : Hid (∀ j, j < en.length → w.cell? ⟨gn, j, none⟩ = some (.int .i64 ((en.getD j 0 : Nat) : Int))) := hid (fun j hj => by rw [World.ownsRow.cellAt ogn j (by omega)]; simp [ints, List.getElem?_eq_getElem hj])
  have Lge : ge < w.heap.size := (oge.lt ge rfl).2
  have Lgn : gn < w.heap.size := (ogn.lt gn rfl).2
  obtain ⟨W, hW⟩ : ∃ W, W = ((w.alloc (.cells #[.int .i64 tr, .slice (some ⟨ge, 0, none⟩) ex.length ce, .slice (some ⟨gn, 0, none⟩) en.length cn, .int .i64 nx] 44)).alloc (.cells #[.int .i64 0, .slice none 0 0, .slice none 0 0, .int .i64 0, .nilFunc] 194)).alloc (.cells #[.slice none 0 0] 105) := ⟨_, rfl⟩
  have C0 : Hid (Cr w #[.int .i64 tr, .slice (some ⟨ge, 0, none⟩) ex.length ce, .slice (some ⟨gn, 0, none⟩) en.length cn, .int .i64 nx] (.slice none 0 0) [] W) := hid (by
    have h1 := heap_alloc_new ((w.alloc (.cells #[.int .i64 tr, .slice (some ⟨ge, 0, none⟩) ex.length ce, .slice (some ⟨gn, 0, none⟩) en.length cn, .int .i64 nx] 44)).alloc (.cells #[.int .i64 0, .slice none 0 0, .slice none 0 0, .int .i64 0, .nilFunc] 194)) (.cells #[.slice none 0 0] 105)
    have h2 := heap_alloc_new (w.alloc (.cells #[.int .i64 tr, .slice (some ⟨ge, 0, none⟩) ex.length ce, .slice (some ⟨gn, 0, none⟩) en.length cn, .int .i64 nx] 44)) (.cells #[.int .i64 0, .slice none 0 0, .slice none 0 0, .int .i64 0, .nilFunc] 194)
    rw [World.size_alloc] at h2
    rw [World.size_alloc, World.size_alloc] at h1
    rw [hW]
    exact ⟨below3 _ _ _ _, block_below (block_below (heap_alloc_new w _) (below1 _ _)) (below1 _ _), block_below h2 (below1 _ _), h1, World.ownsRow_nil _ _ _ _⟩)
  clear h hex hen hac oge ogn
  go_enter Tryz.func125, Tryz.ntmps125
  go_upto_region 2 with fail
  rw [← hW]
  clear hW
  obtain ⟨r0, r1, r2, r3⟩ := quad_cells C0.out.rb
  go_wp2_with fail
  go_loopg [15] ex.length (fun mm i X => ∃ (c : Nat) (lv : Value), c ≤ ex.length ∧ mm = ex.length - c ∧ i = .int .i64 c ∧ Cr w #[.int .i64 tr, .slice (some ⟨ge, 0, none⟩) ex.length ce, .slice (some ⟨gn, 0, none⟩) en.length cn, .int .i64 nx] lv ([] ++ (ex.take c).map (fun i => F.getD i undef)) X)
  case atStart => exact ⟨0, _, by omega, by omega, rfl, by simpa using C0.out⟩
  case round =>
    obtain ⟨c, lv, hc, rfl, rfl, hC⟩ := hrel
    by_cases hlt : c < ex.length
    · have I1 := HI.out
      obtain ⟨st, hst⟩ : ∃ st, st = ex.getD c 0 := ⟨_, rfl⟩
      have hmem : st ∈ ex := by rw [hst, List.getD_eq_getElem?_getD, List.getElem?_eq_getElem hlt]; simp
      have hsn : st < n := Hex.out st hmem
      have cx0 : wr.cell? ⟨ge, c, none⟩ = some (.int .i64 (st : Int)) := by
        rw [hst]; exact (hC.bel.cell (p := ⟨ge, c, none⟩) Lge).trans (CEge.out c hlt)
      obtain ⟨xo, xcap, hxv⟩ := slice_of I1.l1.mac.x
      obtain ⟨xg, xcap2, hxg, _, hxl⟩ := World.ownsRow.form I1.l1.mac.x (by have := I1.l1.lf; omega)
      have hxe : xo = some ⟨xg, 0, none⟩ ∧ xcap = xcap2 := by rw [hxv] at hxg; simpa using hxg
      obtain ⟨rfl, rfl⟩ := hxe
      obtain ⟨nodes, hno, hrow⟩ := I1.l1.cf st hsn
      obtain ⟨so2, sc2, hsv⟩ := slice_of hrow
      have cel : w.cell? ⟨xg, st, none⟩ = some (.slice so2 nodes.length sc2) := by
        have h1 := I1.l1.mac.x
        rw [hxv] at h1
        rw [World.ownsRow.cellAt h1 st (by have := I1.l1.lf; omega), ← hsv, List.getD_eq_getElem?_getD, List.getElem?_eq_getElem (by have := I1.l1.lf; omega)]
        rfl
      obtain ⟨e0, e1, e2, e3, e4⟩ := five_cells I1.l1.mac.box
      have hM : M < w.heap.size := lt_of_block I1.l1.mac.box
      have q1 : wr.cell? ⟨M, 2, none⟩ = some xv := (hC.bel.cell (p := ⟨M, 2, none⟩) hM).trans e2
      rw [hxv] at q1
      have q2 : wr.cell? ⟨xg, st, none⟩ = some (.slice so2 nodes.length sc2) := (hC.bel.cell (p := ⟨xg, st, none⟩) hxl).trans cel
      have LF : Hid (F.length = n) := hid I1.l1.lf
      have SE : Hid (.slice so2 nodes.length sc2 = F.getD st undef) := hid hsv.symm
      have TK : Hid ((ex.take (c + 1)).map (fun i => F.getD i undef) = (ex.take c).map (fun i => F.getD i undef) ++ [.slice so2 nodes.length sc2]) := hid (by
        have h1 : ex.take (c + 1) = ex.take c ++ [st] := by rw [hst, List.take_add_one, List.getD_eq_getElem?_getD, List.getElem?_eq_getElem hlt]; rfl
        rw [h1, List.map_append, SE.out]; rfl)
      have ci : (c : Int) < (ex.length : Int) := by omega
      have c5 : c ≤ 500 := by omega
      have si : (st : Int) < (F.length : Int) := by have := LF.out; omega
      obtain ⟨la, lcap, rfl⟩ := slice_of hC.o
      have C1 := hid hC
      have p0 := one_cell hC.pb
      clear hC I1 hno hrow hsv cel e0 e1 e2 e3 e4 hxv hxg hst hmem
      obtain ⟨LS, hLS⟩ : ∃ LS, LS = ([] ++ (ex.take c).map (fun i => F.getD i undef)) := ⟨_, rfl⟩
      have HLS := hid hLS
      rw [← hLS] at C1 p0
      have LEN : Hid (LS.length ≤ 1000) := hid (by rw [hLS]; simp; omega)
      have ml : w.heap.size + 1 + 1 < wr.heap.size := lt_of_block C1.out.pb
      clear hLS
      go_upto_region 5 with fail
      have D := hid (C1.out.below ((Below.refl _ _).drew))
      have DA := hid ((C1.out.below (below1 wr (.cells #[.slice so2 nodes.length sc2] 118))).below ((Below.refl _ _).drew))
      have NW := hid (World.news_of_block (block_below (heap_alloc_new wr (.cells #[.slice so2 nodes.length sc2] 118)) ((Below.refl _ _).drew)))
      have SZ : Hid (w.heap.size ≤ ((wr.alloc (.cells #[.slice so2 nodes.length sc2] 118)).drew).heap.size) := hid DA.out.bel.size
      have F63 : Hid (LS.length + 1 ≤ maxLen ∧ (LS.length + 1) * 24 ≤ 140737488355328) := hid (by have := LEN.out; unfold maxLen; omega)
      go_region_law
        (first
          | (refine step_append_lies _ (by rfl) _ _ _ (by rfl) w.heap.size 118 i0 _ 1 24 Tryz.underlying105 hi0 hz0 hz1 hz2 rfl (by omega) (.slice la LS.length lcap) LS.length LS (by simp [Act.eval]) (DA.out.o) ⟨wr.heap.size, 0, none⟩ 1 1 [.slice so2 nodes.length sc2] (by simp [Act.eval]) (by simp) NW.out (by intro u hu; simp at hu; subst hu; rfl) (by omega) F63.out.1 F63.out.2 SZ.out (wr.heap.size + 1) (by simp) ?_; intro gg cap' w3 hown1 hgrow hat hlt3; have O3 := hid hown1; have G3 := hid hgrow; have X3 := (hgrow.block _ (lt_of_block DA.out.pb) (fun e => own_far DA.out.o (by decide) DA.out.pb e.symm)).trans DA.out.pb; have r0 : w3.cell? ⟨w.heap.size + 1 + 1, 0, none⟩ = some (.slice la LS.length lcap) := (by simp [World.cell?, X3]); have fr1 := frozen_of_row w3 _ 0 _ _ X3; clear hown1 hgrow hat X3))
      all_goals
        have KK := Cr.add (sv := .slice so2 nodes.length sc2) C1.out (Y := (wr.alloc (.cells #[.slice so2 nodes.length sc2] 118)).drew) ((below1 _ _).drew) G3.out O3.out
        go_wp2_with fail
        go_roundg (ex.length - (c + 1))
        case measure => omega
        case rel => exact ⟨c + 1, _, by omega, rfl, by go_num, by rw [TK.out, ← List.append_assoc, ← HLS.out]; exact KK⟩
    · obtain rfl : c = ex.length := by omega
      rw [List.take_length, List.nil_append] at hC
      obtain ⟨la, lcap, rfl⟩ := slice_of hC.o
      have p0 := one_cell hC.pb
      have C1 := hid hC
      obtain ⟨LS, hLS⟩ : ∃ LS, LS = ex.map (fun i => F.getD i undef) := ⟨_, rfl⟩
      have HLS := hid hLS
      rw [← hLS] at C1 p0
      have LEN : Hid (LS.length ≤ 1000) := hid (by rw [hLS]; simp; omega)
      have ml : w.heap.size + 1 + 1 < wr.heap.size := lt_of_block C1.out.pb
      have NW := hid (World.news_of_block (heap_alloc_new wr (.cells #[.slice ao an ac] 118)))
      clear hLS hC
      go_wp2_with (at_builtin; refine wpList_append_lies _ rfl (.tmp 30) (.tmp 32) 105 rfl w.heap.size 118 i0 _ 1 24 Tryz.underlying105 hi0 hz0 hz1 hz2 rfl (by decide) (.slice la LS.length lcap) LS.length LS rfl (C1.out.below (below1 _ _)).o ⟨wr.heap.size, 0, none⟩ 1 1 [.slice ao an ac] rfl rfl NW.out (by intro u hu; simp at hu; subst hu; rfl) (by omega) (by have := LEN.out; unfold maxLen; omega) (by have := LEN.out; omega) (by have := C1.out.bel.size; simp; omega) (wr.heap.size + 1) (by simp) ?_)
      intro gg cap' w3 hown hgrow hat hlt3
      have X3 := (hgrow.block _ (lt_of_block (C1.out.below (below1 wr (.cells #[.slice ao an ac] 118))).pb) (fun e => own_far (C1.out.below (below1 _ _)).o (by decide) (C1.out.below (below1 wr (.cells #[.slice ao an ac] 118))).pb e.symm)).trans (C1.out.below (below1 wr (.cells #[.slice ao an ac] 118))).pb
      have s0 := one_cell X3
      have fr1 := frozen_of_row w3 _ 0 _ _ X3
      have C2 := hid (Cr.add (sv := .slice ao an ac) C1.out (below1 wr (.cells #[.slice ao an ac] 118)) hgrow hown)
      clear hown hgrow hat X3 p0
      go_upto_region 8 with fail
      obtain ⟨W2, hW2⟩ : ∃ W2, W2 = w3.setCell ⟨w.heap.size + 1 + 1, 0, none⟩ (.slice (some ⟨gg, 0, none⟩) (LS.length + 1) cap') := ⟨_, rfl⟩
      rw [← hW2] at C2 ⊢
      clear hW2 s0 fr1 C0
      have C0 := C2
      clear C2
      obtain ⟨r0, r1, r2, r3⟩ := quad_cells C0.out.rb
      obtain ⟨PRE, hPRE⟩ : ∃ PRE, PRE = LS ++ [.slice ao an ac] := ⟨_, rfl⟩
      rw [← hPRE] at C0
      have HPRE := hid hPRE
      have LPRE : Hid (PRE.length ≤ 500) := hid (by rw [hPRE, HLS.out]; simp; omega)
      clear hPRE C1 LEN NW
      go_wp2_with fail
      go_loopg [37] en.length (fun mm i X => ∃ (c : Nat) (lv : Value), c ≤ en.length ∧ mm = en.length - c ∧ i = .int .i64 c ∧ Cr w #[.int .i64 tr, .slice (some ⟨ge, 0, none⟩) ex.length ce, .slice (some ⟨gn, 0, none⟩) en.length cn, .int .i64 nx] lv (PRE ++ (en.take c).map (fun i => E.getD i undef)) X)
      case atStart => exact ⟨0, _, by omega, by omega, rfl, by simpa using C0.out⟩
      case round =>
        obtain ⟨c, lv, hc, rfl, rfl, hC⟩ := hrel
        by_cases hlt : c < en.length
        · have I1 := HI.out
          obtain ⟨st, hst⟩ : ∃ st, st = en.getD c 0 := ⟨_, rfl⟩
          have hmem : st ∈ en := by rw [hst, List.getD_eq_getElem?_getD, List.getElem?_eq_getElem hlt]; simp
          have hsn : st < n := Hen.out st hmem
          have cx0 : wr.cell? ⟨gn, c, none⟩ = some (.int .i64 (st : Int)) := by
            rw [hst]; exact (hC.bel.cell (p := ⟨gn, c, none⟩) Lgn).trans (CEgn.out c hlt)
          obtain ⟨xo, xcap, hxv⟩ := slice_of I1.l1.mac.e
          obtain ⟨xg, xcap2, hxg, _, hxl⟩ := World.ownsRow.form I1.l1.mac.e (by have := I1.l1.le; omega)
          have hxe : xo = some ⟨xg, 0, none⟩ ∧ xcap = xcap2 := by rw [hxv] at hxg; simpa using hxg
          obtain ⟨rfl, rfl⟩ := hxe
          obtain ⟨nodes, hno, hrow⟩ := I1.l1.ce st hsn
          obtain ⟨so2, sc2, hsv⟩ := slice_of hrow
          have cel : w.cell? ⟨xg, st, none⟩ = some (.slice so2 nodes.length sc2) := by
            have h1 := I1.l1.mac.e
            rw [hxv] at h1
            rw [World.ownsRow.cellAt h1 st (by have := I1.l1.le; omega), ← hsv, List.getD_eq_getElem?_getD, List.getElem?_eq_getElem (by have := I1.l1.le; omega)]
            rfl
          obtain ⟨e0, e1, e2, e3, e4⟩ := five_cells I1.l1.mac.box
          have hM : M < w.heap.size := lt_of_block I1.l1.mac.box
          have q1 : wr.cell? ⟨M, 1, none⟩ = some ev := (hC.bel.cell (p := ⟨M, 1, none⟩) hM).trans e1
          rw [hxv] at q1
          have q2 : wr.cell? ⟨xg, st, none⟩ = some (.slice so2 nodes.length sc2) := (hC.bel.cell (p := ⟨xg, st, none⟩) hxl).trans cel
          have LF : Hid (E.length = n) := hid I1.l1.le
          have SE : Hid (.slice so2 nodes.length sc2 = E.getD st undef) := hid hsv.symm
          have TK : Hid ((en.take (c + 1)).map (fun i => E.getD i undef) = (en.take c).map (fun i => E.getD i undef) ++ [.slice so2 nodes.length sc2]) := hid (by
            have h1 : en.take (c + 1) = en.take c ++ [st] := by rw [hst, List.take_add_one, List.getD_eq_getElem?_getD, List.getElem?_eq_getElem hlt]; rfl
            rw [h1, List.map_append, SE.out]; rfl)
          have ci : (c : Int) < (en.length : Int) := by omega
          have c5 : c ≤ 500 := by omega
          have si : (st : Int) < (E.length : Int) := by have := LF.out; omega
          obtain ⟨la, lcap, rfl⟩ := slice_of hC.o
          have C1 := hid hC
          have p0 := one_cell hC.pb
          clear hC I1 hno hrow hsv cel e0 e1 e2 e3 e4 hxv hxg hst hmem
          obtain ⟨LS, hLS⟩ : ∃ LS, LS = (PRE ++ (en.take c).map (fun i => E.getD i undef)) := ⟨_, rfl⟩
          have HLS := hid hLS
          rw [← hLS] at C1 p0
          have LEN : Hid (LS.length ≤ 1000) := hid (by rw [hLS]; have := LPRE.out; simp; omega)
          have ml : w.heap.size + 1 + 1 < wr.heap.size := lt_of_block C1.out.pb
          clear hLS
          go_upto_region 11 with fail
          have D := hid (C1.out.below ((Below.refl _ _).drew))
          have DA := hid ((C1.out.below (below1 wr (.cells #[.slice so2 nodes.length sc2] 118))).below ((Below.refl _ _).drew))
          have NW := hid (World.news_of_block (block_below (heap_alloc_new wr (.cells #[.slice so2 nodes.length sc2] 118)) ((Below.refl _ _).drew)))
          have SZ : Hid (w.heap.size ≤ ((wr.alloc (.cells #[.slice so2 nodes.length sc2] 118)).drew).heap.size) := hid DA.out.bel.size
          have F63 : Hid (LS.length + 1 ≤ maxLen ∧ (LS.length + 1) * 24 ≤ 140737488355328) := hid (by have := LEN.out; unfold maxLen; omega)
          go_region_law
            (first
              | (refine step_append_lies _ (by rfl) _ _ _ (by rfl) w.heap.size 118 i0 _ 1 24 Tryz.underlying105 hi0 hz0 hz1 hz2 rfl (by omega) (.slice la LS.length lcap) LS.length LS (by simp [Act.eval]) (DA.out.o) ⟨wr.heap.size, 0, none⟩ 1 1 [.slice so2 nodes.length sc2] (by simp [Act.eval]) (by simp) NW.out (by intro u hu; simp at hu; subst hu; rfl) (by omega) F63.out.1 F63.out.2 SZ.out (wr.heap.size + 1) (by simp) ?_; intro gg cap' w3 hown1 hgrow hat hlt3; have O3 := hid hown1; have G3 := hid hgrow; have X3 := (hgrow.block _ (lt_of_block DA.out.pb) (fun e => own_far DA.out.o (by decide) DA.out.pb e.symm)).trans DA.out.pb; have r0 : w3.cell? ⟨w.heap.size + 1 + 1, 0, none⟩ = some (.slice la LS.length lcap) := (by simp [World.cell?, X3]); have fr1 := frozen_of_row w3 _ 0 _ _ X3; clear hown1 hgrow hat X3))
          all_goals
            have KK := Cr.add (sv := .slice so2 nodes.length sc2) C1.out (Y := (wr.alloc (.cells #[.slice so2 nodes.length sc2] 118)).drew) ((below1 _ _).drew) G3.out O3.out
            go_wp2_with fail
            go_roundg (en.length - (c + 1))
            case measure => omega
            case rel => exact ⟨c + 1, _, by omega, rfl, by go_num, by rw [TK.out, ← List.append_assoc, ← HLS.out]; exact KK⟩
        · obtain rfl : c = en.length := by omega
          rw [List.take_length] at hC
          have FN := hid hC
          obtain ⟨r0, r1, r2, r3⟩ := quad_cells hC.rb
          obtain ⟨z0, z1, z2, z3, z4⟩ := five_cells hC.lb
          have fz := six_fr hC.lb
          have ml : w.heap.size + 1 + 1 < wr.heap.size := lt_of_block hC.pb
          clear hC
          go_wp2_with fail
          obtain ⟨k0, k1, k2, k3, k4⟩ := five_cells (row5 (a := .int .i64 tr) (b := .slice (some ⟨ge, 0, none⟩) ex.length ce) (c := .slice (some ⟨gn, 0, none⟩) en.length cn) (d := .int .i64 nx) (e := .func (.func 163) #[] #[.pointer (some ⟨w.heap.size + 1 + 1, 0, none⟩)]) FN.out.lb)
          refine bodyPost_ret (v := .agg #[.int .i64 tr, .slice (some ⟨ge, 0, none⟩) ex.length ce, .slice (some ⟨gn, 0, none⟩) en.length cn, .int .i64 nx, .func (.func 163) #[] #[.pointer (some ⟨w.heap.size + 1 + 1, 0, none⟩)]]) (by simp [results, Tryz.results125, go_sem, k0, k1, k2, k3, k4]) rfl ?_
          have tt : Turn (fun t => t = 194) 0 wr (set5 wr (w.heap.size + 1) (.int .i64 tr) (.slice (some ⟨ge, 0, none⟩) ex.length ce) (.slice (some ⟨gn, 0, none⟩) en.length cn) (.int .i64 nx) (.func (.func 163) #[] #[.pointer (some ⟨w.heap.size + 1 + 1, 0, none⟩)])) := turn5 FN.out.lb rfl
          have bb := bel5 (a := .int .i64 tr) (b := .slice (some ⟨ge, 0, none⟩) ex.length ce) (c := .slice (some ⟨gn, 0, none⟩) en.length cn) (d := .int .i64 nx) (e := .func (.func 163) #[] #[.pointer (some ⟨w.heap.size + 1 + 1, 0, none⟩)]) FN.out.bel (Nat.le_succ w.heap.size)
          have ea : Each _ l (ex.map (fun i => F.getD i undef) ++ [.slice ao an ac] ++ en.map (fun i => E.getD i undef)) (ex.map (fun i => (ss.getD i st0).exit) ++ [acts] ++ en.map (fun i => (ss.getD i st0).entry)) := each_append (each_append (each_map (fun x hx => ((HI.out.l1.cf x (Hex.out x hx)).below bb).base)) (each_one (HAC.out.below bb))) (each_map (fun x hx => ((HI.out.l1.ce x (Hen.out x hx)).below bb).base))
          have or := tt.own FN.out.o (by decide)
          rw [HPRE.out, HLS.out] at or
          exact ⟨w.heap.size + 1 + 1, lv, rfl, ⟨by have := tt.box FN.out.pb (by decide); exact this, ownsRow_base or (Nat.zero_le _), ea.1, ea.2⟩, bb⟩
end Go.Proofs.YtiimkhepplkocaaGreat

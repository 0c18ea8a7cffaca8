import Derived.Test.YtiimkhepplkocaaGreatZb
import Derived.Test.YtiimkhepplkocaaGreatV6
namespace Go.Proofs.YtiimkhepplkocaaGreat
open Go.RowKit Go.Sort
set_option linter.unusedVariables false
attribute [local go_sem ↓] Go.wp_at_zero Go.wp_at_succ
def Each (X : World) (l : LimD) (LS : List Value) (xs : List (List StmD)) : Prop := xs.length = LS.length ∧ ∀ i, i < LS.length → StmR X 0 l (LS.getD i undef) (xs.getD i [])
theorem each_append {X : World} {l : LimD} {A C : List Value} {a c : List (List StmD)} (h1 : Each X l A a) (h2 : Each X l C c) : Each X l (A ++ C) (a ++ c) := by
 refine ⟨by simp [h1.1, h2.1], fun i hi => ?_⟩
 have e := h1.1
 simp only [List.getD_eq_getElem?_getD]
 by_cases h : i < A.length
 ·rw [List.getElem?_append_left h, List.getElem?_append_left (by omega)]
  simpa only [List.getD_eq_getElem?_getD] using h1.2 i h
 ·rw [List.getElem?_append_right (by omega), List.getElem?_append_right (by omega), e]
  rw [List.length_append] at hi
  simpa only [List.getD_eq_getElem?_getD] using h2.2 (i - A.length) (by omega)
theorem each_map {X : World} {l : LimD} {f : Nat → Value} {g : Nat → List StmD} {K : List Nat} (h : ∀ x, x ∈ K → StmR X 0 l (f x) (g x)) : Each X l (K.map f) (K.map g) := by
 refine ⟨by simp, fun i hi => ?_⟩
 rw [List.length_map] at hi
 simp only [List.getD_eq_getElem?_getD, List.getElem?_map, List.getElem?_eq_getElem hi, Option.map_some, Option.getD_some]
 exact h _ (List.getElem_mem hi)
theorem each_one {X : World} {l : LimD} {v : Value} {x : List StmD} (h : StmR X 0 l v x) : Each X l [v] [x] := ⟨rfl, fun i hi => by
 obtain rfl : i = 0 := by simpa using hi
 simpa using h⟩
theorem StmR.base {X : World} {B : Nat} {l : LimD} {v : Value} {xs : List StmD} (h : StmR X B l v xs) : StmR X 0 l v xs := by
 obtain ⟨vs, h1, h2⟩ := h
 exact ⟨vs, h1, ownsRow_base h2 (Nat.zero_le _)⟩
abbrev set5 (X : World) (r : Nat) (a b c d e : Value) : World := ((((X.setCell ⟨r, 0, none⟩ a).setCell ⟨r, 1, none⟩ b).setCell ⟨r, 2, none⟩ c).setCell ⟨r, 3, none⟩ d).setCell ⟨r, 4, none⟩ e
theorem row5 {X : World} {r : Nat} {a b c d e x0 x1 x2 x3 x4 : Value} {t : TypeId} (h : X.heap[r]? = some (.cells #[x0, x1, x2, x3, x4] t (0, 0))) : (set5 X r a b c d e).heap[r]? = some (.cells #[a, b, c, d, e] t (0, 0)) := by
 have m1 := heap_setCell_same X r 0 _ _ a h
 have m2 := heap_setCell_same _ r 1 _ _ b m1
 have m3 := heap_setCell_same _ r 2 _ _ c m2
 have m4 := heap_setCell_same _ r 3 _ _ d m3
 have m5 := heap_setCell_same _ r 4 _ _ e m4
 rw [m5]; simp
theorem bel5 {w X : World} {C r : Nat} {a b c d e : Value} (h : Below C w X) (hr : C ≤ r) : Below C w (set5 X r a b c d e) := ((((h.setCell hr _).setCell hr _).setCell hr _).setCell hr _).setCell hr _
theorem turn5 {S : Nat → Prop} {X : World} {r : Nat} {a b c d e x0 x1 x2 x3 x4 : Value} {t : TypeId} (h : X.heap[r]? = some (.cells #[x0, x1, x2, x3, x4] t (0, 0))) (ht : S t) : Turn S 0 X (set5 X r a b c d e) := by
 have m1 := heap_setCell_same X r 0 _ _ a h
 have m2 := heap_setCell_same _ r 1 _ _ b m1
 have m3 := heap_setCell_same _ r 2 _ _ c m2
 have m4 := heap_setCell_same _ r 3 _ _ d m3
 exact ((((Turn.set h ht (Nat.zero_le _) _).trans (Turn.set m1 ht (Nat.zero_le _) _)).trans (Turn.set m2 ht (Nat.zero_le _) _)).trans (Turn.set m3 ht (Nat.zero_le _) _)).trans (Turn.set m4 ht (Nat.zero_le _) _)
theorem one_cell {w : World} {H : Nat} {a : Value} {t : TypeId} (k : w.heap[H]? = some (.cells #[a] t (0, 0))) : w.cell? ⟨H, 0, none⟩ = some a := by simp [World.cell?, k]
set_option maxRecDepth 100000 in
set_option maxHeartbeats 8000000 in
theorem compileRow_any {w0 : World} {cx lx : Array Value} {N : Nat → Nat} {tg tcap : Nat} {ss : List StD} {ts : List TrD} {n : Nat} {l : LimD} {B P0 M tn : Nat} {E F : List Value} {ev xv : Value} {L lets act : Nat → Value} (tr nx : Int) (ge ce gn cn : Nat) (ex en : List Nat) (ao : Option Addr) (an ac : Nat) (acts : List StmD) (w : World) (h : L2 w0 cx lx N tg tcap ss ts n l B P0 M tn E F ev xv L lets act w)
  (hx2 : ex.length ≤ 400) (hn2 : en.length ≤ 400) (hex : ∀ x, x ∈ ex → x < n) (hen : ∀ x, x ∈ en → x < n) (oge : w.ownsRow 0 3 1 (.slice (some ⟨ge, 0, none⟩) ex.length ce) ex.length (ints ex)) (ogn : w.ownsRow 0 3 1 (.slice (some ⟨gn, 0, none⟩) en.length cn) en.length (ints en)) (hac : StmR w 0 l (.slice ao an ac) acts) :
  Calls Tryz.prog 125 #[.pointer (some ⟨M, 0, none⟩), .agg #[.int .i64 tr, .slice (some ⟨ge, 0, none⟩) ex.length ce, .slice (some ⟨gn, 0, none⟩) en.length cn, .int .i64 nx], .slice ao an ac] w fun e w' => ∃ P lv, e = .returned (.agg #[.int .i64 tr, .slice (some ⟨ge, 0, none⟩) ex.length ce, .slice (some ⟨gn, 0, none⟩) en.length cn, .int .i64 nx, .func (.func 163) #[] #[.pointer (some ⟨P, 0, none⟩)]]) ∧
   Lists w' l P lv (ex.map (fun i => F.getD i undef) ++ [.slice ao an ac] ++ en.map (fun i => E.getD i undef)) (ex.map (fun i => (ss.getD i st0).exit) ++ [acts] ++ en.map (fun i => (ss.getD i st0).entry)) ∧ Below w.heap.size w w' := by
 have hmf : ∀ (fn : Fn) (first cap : Array Value) (w : World), (Instr.makeFunc fn first cap).run Tryz.prog w = .ok (.func fn first cap) w := fun _ _ _ _ => rfl
 obtain ⟨i0, hi0, hz0, hz1, hz2⟩ := info_parts infoS_stmNode
 have HI := hid h
 have Hex := hid hex
 have Hen := hid hen
 have HAC := hid hac
 have CEge : Hid (∀ j, j < ex.length → w.cell? ⟨ge, j, none⟩ = some (.int .i64 ((ex.getD j 0 : Nat) : Int))) := hid (fun j hj => by rw [World.ownsRow.cellAt oge j (by omega)]; simp [ints, List.getElem?_eq_getElem hj])
 have CEgn : Hid (∀ j, j < en.length → w.cell? ⟨gn, j, none⟩ = some (.int .i64 ((en.getD j 0 : Nat) : Int))) := hid (fun j hj => by rw [World.ownsRow.cellAt ogn j (by omega)]; simp [ints, List.getElem?_eq_getElem hj])
 have Lge : ge < w.heap.size := (oge.lt ge rfl).2
 have Lgn : gn < w.heap.size := (ogn.lt gn rfl).2
 obtain ⟨W, hW⟩ : ∃ W, W = ((w.alloc (.cells #[.int .i64 tr, .slice (some ⟨ge, 0, none⟩) ex.length ce, .slice (some ⟨gn, 0, none⟩) en.length cn, .int .i64 nx] 44)).alloc (.cells #[.int .i64 0, .slice none 0 0, .slice none 0 0, .int .i64 0, .nilFunc] 194)).alloc (.cells #[.slice none 0 0] 105) := ⟨_, rfl⟩
 have C0 : Hid (Cr w #[.int .i64 tr, .slice (some ⟨ge, 0, none⟩) ex.length ce, .slice (some ⟨gn, 0, none⟩) en.length cn, .int .i64 nx] (.slice none 0 0) [] W) := hid (by
  have h1 := heap_alloc_new ((w.alloc (.cells #[.int .i64 tr, .slice (some ⟨ge, 0, none⟩) ex.length ce, .slice (some ⟨gn, 0, none⟩) en.length cn, .int .i64 nx] 44)).alloc (.cells #[.int .i64 0, .slice none 0 0, .slice none 0 0, .int .i64 0, .nilFunc] 194)) (.cells #[.slice none 0 0] 105)
  have h2 := heap_alloc_new (w.alloc (.cells #[.int .i64 tr, .slice (some ⟨ge, 0, none⟩) ex.length ce, .slice (some ⟨gn, 0, none⟩) en.length cn, .int .i64 nx] 44)) (.cells #[.int .i64 0, .slice none 0 0, .slice none 0 0, .int .i64 0, .nilFunc] 194)
  rw [World.size_alloc] at h2
  rw [World.size_alloc, World.size_alloc] at h1
  rw [hW]
  exact ⟨below3 _ _ _ _, block_below (block_below (heap_alloc_new w _) (below1 _ _)) (below1 _ _), block_below h2 (below1 _ _), h1, World.ownsRow_nil _ _ _ _⟩)
 clear h hex hen hac oge ogn
 go_enter Tryz.func125, Tryz.ntmps125
 go_upto_region 2 with fail
 rw [← hW]
 clear hW
 obtain ⟨r0, r1, r2, r3⟩ := quad_cells C0.out.rb
 go_wp2_with fail
 go_loopg [15] ex.length (fun mm i X => ∃ (c : Nat) (lv : Value), c ≤ ex.length ∧ mm = ex.length - c ∧ i = .int .i64 c ∧ Cr w #[.int .i64 tr, .slice (some ⟨ge, 0, none⟩) ex.length ce, .slice (some ⟨gn, 0, none⟩) en.length cn, .int .i64 nx] lv ([] ++ (ex.take c).map (fun i => F.getD i undef)) X)
 case atStart => exact ⟨0, _, by omega, by omega, rfl, by simpa using C0.out⟩
 case round =>
  obtain ⟨c, lv, hc, rfl, rfl, hC⟩ := hrel
  by_cases hlt : c < ex.length
  ·have I1 := HI.out
   obtain ⟨st, hst⟩ : ∃ st, st = ex.getD c 0 := ⟨_, rfl⟩
   have hmem : st ∈ ex := by rw [hst, List.getD_eq_getElem?_getD, List.getElem?_eq_getElem hlt]; simp
   have hsn : st < n := Hex.out st hmem
   have cx0 : wr.cell? ⟨ge, c, none⟩ = some (.int .i64 (st : Int)) := by
    rw [hst]; exact (hC.bel.cell (p := ⟨ge, c, none⟩) Lge).trans (CEge.out c hlt)
   obtain ⟨xo, xcap, hxv⟩ := slice_of I1.l1.mac.x
   obtain ⟨xg, xcap2, hxg, _, hxl⟩ := World.ownsRow.form I1.l1.mac.x (by have := I1.l1.lf; omega)
   have hxe : xo = some ⟨xg, 0, none⟩ ∧ xcap = xcap2 := by rw [hxv] at hxg; simpa using hxg
   obtain ⟨rfl, rfl⟩ := hxe
   obtain ⟨nodes, hno, hrow⟩ := I1.l1.cf st hsn
   obtain ⟨so2, sc2, hsv⟩ := slice_of hrow
   have cel : w.cell? ⟨xg, st, none⟩ = some (.slice so2 nodes.length sc2) := by
    have h1 := I1.l1.mac.x
    rw [hxv] at h1
    rw [World.ownsRow.cellAt h1 st (by have := I1.l1.lf; omega), ← hsv, List.getD_eq_getElem?_getD, List.getElem?_eq_getElem (by have := I1.l1.lf; omega)]
    rfl
   obtain ⟨e0, e1, e2, e3, e4⟩ := five_cells I1.l1.mac.box
   have hM : M < w.heap.size := lt_of_block I1.l1.mac.box
   have q1 : wr.cell? ⟨M, 2, none⟩ = some xv := (hC.bel.cell (p := ⟨M, 2, none⟩) hM).trans e2
   rw [hxv] at q1
   have q2 : wr.cell? ⟨xg, st, none⟩ = some (.slice so2 nodes.length sc2) := (hC.bel.cell (p := ⟨xg, st, none⟩) hxl).trans cel
   have LF : Hid (F.length = n) := hid I1.l1.lf
   have SE : Hid (.slice so2 nodes.length sc2 = F.getD st undef) := hid hsv.symm
   have TK : Hid ((ex.take (c + 1)).map (fun i => F.getD i undef) = (ex.take c).map (fun i => F.getD i undef) ++ [.slice so2 nodes.length sc2]) := hid (by
    have h1 : ex.take (c + 1) = ex.take c ++ [st] := by rw [hst, List.take_add_one, List.getD_eq_getElem?_getD, List.getElem?_eq_getElem hlt]; rfl
    rw [h1, List.map_append, SE.out]; rfl)
   have ci : (c : Int) < (ex.length : Int) := by omega
   have c5 : c ≤ 500 := by omega
   have si : (st : Int) < (F.length : Int) := by have := LF.out; omega
   obtain ⟨la, lcap, rfl⟩ := slice_of hC.o
   have C1 := hid hC
   have p0 := one_cell hC.pb
   clear hC I1 hno hrow hsv cel e0 e1 e2 e3 e4 hxv hxg hst hmem
   obtain ⟨LS, hLS⟩ : ∃ LS, LS = ([] ++ (ex.take c).map (fun i => F.getD i undef)) := ⟨_, rfl⟩
   have HLS := hid hLS
   rw [← hLS] at C1 p0
   have LEN : Hid (LS.length ≤ 1000) := hid (by rw [hLS]; simp; omega)
   have ml : w.heap.size + 1 + 1 < wr.heap.size := lt_of_block C1.out.pb
   clear hLS
   go_upto_region 5 with fail
   have D := hid (C1.out.below ((Below.refl _ _).drew))
   have DA := hid ((C1.out.below (below1 wr (.cells #[.slice so2 nodes.length sc2] 118))).below ((Below.refl _ _).drew))
   have NW := hid (World.news_of_block (block_below (heap_alloc_new wr (.cells #[.slice so2 nodes.length sc2] 118)) ((Below.refl _ _).drew)))
   have SZ : Hid (w.heap.size ≤ ((wr.alloc (.cells #[.slice so2 nodes.length sc2] 118)).drew).heap.size) := hid DA.out.bel.size
   have F63 : Hid (LS.length + 1 ≤ maxLen ∧ (LS.length + 1) * 24 ≤ 140737488355328) := hid (by have := LEN.out; unfold maxLen; omega)
   go_region_law
    (first
     | (refine step_append_lies _ (by rfl) _ _ _ (by rfl) w.heap.size 118 i0 _ 1 24 Tryz.underlying105 hi0 hz0 hz1 hz2 rfl (by omega) (.slice la LS.length lcap) LS.length LS (by simp [Act.eval]) (DA.out.o) ⟨wr.heap.size, 0, none⟩ 1 1 [.slice so2 nodes.length sc2] (by simp [Act.eval]) (by simp) NW.out (by intro u hu; simp at hu; subst hu; rfl) (by omega) F63.out.1 F63.out.2 SZ.out (wr.heap.size + 1) (by simp) ?_; intro gg cap' w3 hown1 hgrow hat hlt3; have O3 := hid hown1; have G3 := hid hgrow; have X3 := (hgrow.block _ (lt_of_block DA.out.pb) (fun e => own_far DA.out.o (by decide) DA.out.pb e.symm)).trans DA.out.pb; have r0 : w3.cell? ⟨w.heap.size + 1 + 1, 0, none⟩ = some (.slice la LS.length lcap) := (by simp [World.cell?, X3]); have fr1 := frozen_of_row w3 _ 0 _ _ X3; clear hown1 hgrow hat X3))
   all_goals
    have KK := Cr.add (sv := .slice so2 nodes.length sc2) C1.out (Y := (wr.alloc (.cells #[.slice so2 nodes.length sc2] 118)).drew) ((below1 _ _).drew) G3.out O3.out
    go_wp2_with fail
    go_roundg (ex.length - (c + 1))
    case measure => omega
    case rel => exact ⟨c + 1, _, by omega, rfl, by go_num, by rw [TK.out, ← List.append_assoc, ← HLS.out]; exact KK⟩
  ·obtain rfl : c = ex.length := by omega
   rw [List.take_length, List.nil_append] at hC
   obtain ⟨la, lcap, rfl⟩ := slice_of hC.o
   have p0 := one_cell hC.pb
   have C1 := hid hC
   obtain ⟨LS, hLS⟩ : ∃ LS, LS = ex.map (fun i => F.getD i undef) := ⟨_, rfl⟩
   have HLS := hid hLS
   rw [← hLS] at C1 p0
   have LEN : Hid (LS.length ≤ 1000) := hid (by rw [hLS]; simp; omega)
   have ml : w.heap.size + 1 + 1 < wr.heap.size := lt_of_block C1.out.pb
   have NW := hid (World.news_of_block (heap_alloc_new wr (.cells #[.slice ao an ac] 118)))
   clear hLS hC
   go_wp2_with (at_builtin; refine wpList_append_lies _ rfl (.tmp 30) (.tmp 32) 105 rfl w.heap.size 118 i0 _ 1 24 Tryz.underlying105 hi0 hz0 hz1 hz2 rfl (by decide) (.slice la LS.length lcap) LS.length LS rfl (C1.out.below (below1 _ _)).o ⟨wr.heap.size, 0, none⟩ 1 1 [.slice ao an ac] rfl rfl NW.out (by intro u hu; simp at hu; subst hu; rfl) (by omega) (by have := LEN.out; unfold maxLen; omega) (by have := LEN.out; omega) (by have := C1.out.bel.size; simp; omega) (wr.heap.size + 1) (by simp) ?_)
   intro gg cap' w3 hown hgrow hat hlt3
   have X3 := (hgrow.block _ (lt_of_block (C1.out.below (below1 wr (.cells #[.slice ao an ac] 118))).pb) (fun e => own_far (C1.out.below (below1 _ _)).o (by decide) (C1.out.below (below1 wr (.cells #[.slice ao an ac] 118))).pb e.symm)).trans (C1.out.below (below1 wr (.cells #[.slice ao an ac] 118))).pb
   have s0 := one_cell X3
   have fr1 := frozen_of_row w3 _ 0 _ _ X3
   have C2 := hid (Cr.add (sv := .slice ao an ac) C1.out (below1 wr (.cells #[.slice ao an ac] 118)) hgrow hown)
   clear hown hgrow hat X3 p0
   go_upto_region 8 with fail
   obtain ⟨W2, hW2⟩ : ∃ W2, W2 = w3.setCell ⟨w.heap.size + 1 + 1, 0, none⟩ (.slice (some ⟨gg, 0, none⟩) (LS.length + 1) cap') := ⟨_, rfl⟩
   rw [← hW2] at C2 ⊢
   clear hW2 s0 fr1 C0
   have C0 := C2
   clear C2
   obtain ⟨r0, r1, r2, r3⟩ := quad_cells C0.out.rb
   obtain ⟨PRE, hPRE⟩ : ∃ PRE, PRE = LS ++ [.slice ao an ac] := ⟨_, rfl⟩
   rw [← hPRE] at C0
   have HPRE := hid hPRE
   have LPRE : Hid (PRE.length ≤ 500) := hid (by rw [hPRE, HLS.out]; simp; omega)
   clear hPRE C1 LEN NW
   go_wp2_with fail
   go_loopg [37] en.length (fun mm i X => ∃ (c : Nat) (lv : Value), c ≤ en.length ∧ mm = en.length - c ∧ i = .int .i64 c ∧ Cr w #[.int .i64 tr, .slice (some ⟨ge, 0, none⟩) ex.length ce, .slice (some ⟨gn, 0, none⟩) en.length cn, .int .i64 nx] lv (PRE ++ (en.take c).map (fun i => E.getD i undef)) X)
   case atStart => exact ⟨0, _, by omega, by omega, rfl, by simpa using C0.out⟩
   case round =>
    obtain ⟨c, lv, hc, rfl, rfl, hC⟩ := hrel
    by_cases hlt : c < en.length
    ·have I1 := HI.out
     obtain ⟨st, hst⟩ : ∃ st, st = en.getD c 0 := ⟨_, rfl⟩
     have hmem : st ∈ en := by rw [hst, List.getD_eq_getElem?_getD, List.getElem?_eq_getElem hlt]; simp
     have hsn : st < n := Hen.out st hmem
     have cx0 : wr.cell? ⟨gn, c, none⟩ = some (.int .i64 (st : Int)) := by
      rw [hst]; exact (hC.bel.cell (p := ⟨gn, c, none⟩) Lgn).trans (CEgn.out c hlt)
     obtain ⟨xo, xcap, hxv⟩ := slice_of I1.l1.mac.e
     obtain ⟨xg, xcap2, hxg, _, hxl⟩ := World.ownsRow.form I1.l1.mac.e (by have := I1.l1.le; omega)
     have hxe : xo = some ⟨xg, 0, none⟩ ∧ xcap = xcap2 := by rw [hxv] at hxg; simpa using hxg
     obtain ⟨rfl, rfl⟩ := hxe
     obtain ⟨nodes, hno, hrow⟩ := I1.l1.ce st hsn
     obtain ⟨so2, sc2, hsv⟩ := slice_of hrow
     have cel : w.cell? ⟨xg, st, none⟩ = some (.slice so2 nodes.length sc2) := by
      have h1 := I1.l1.mac.e
      rw [hxv] at h1
      rw [World.ownsRow.cellAt h1 st (by have := I1.l1.le; omega), ← hsv, List.getD_eq_getElem?_getD, List.getElem?_eq_getElem (by have := I1.l1.le; omega)]
      rfl
     obtain ⟨e0, e1, e2, e3, e4⟩ := five_cells I1.l1.mac.box
     have hM : M < w.heap.size := lt_of_block I1.l1.mac.box
     have q1 : wr.cell? ⟨M, 1, none⟩ = some ev := (hC.bel.cell (p := ⟨M, 1, none⟩) hM).trans e1
     rw [hxv] at q1
     have q2 : wr.cell? ⟨xg, st, none⟩ = some (.slice so2 nodes.length sc2) := (hC.bel.cell (p := ⟨xg, st, none⟩) hxl).trans cel
     have LF : Hid (E.length = n) := hid I1.l1.le
     have SE : Hid (.slice so2 nodes.length sc2 = E.getD st undef) := hid hsv.symm
     have TK : Hid ((en.take (c + 1)).map (fun i => E.getD i undef) = (en.take c).map (fun i => E.getD i undef) ++ [.slice so2 nodes.length sc2]) := hid (by
      have h1 : en.take (c + 1) = en.take c ++ [st] := by rw [hst, List.take_add_one, List.getD_eq_getElem?_getD, List.getElem?_eq_getElem hlt]; rfl
      rw [h1, List.map_append, SE.out]; rfl)
     have ci : (c : Int) < (en.length : Int) := by omega
     have c5 : c ≤ 500 := by omega
     have si : (st : Int) < (E.length : Int) := by have := LF.out; omega
     obtain ⟨la, lcap, rfl⟩ := slice_of hC.o
     have C1 := hid hC
     have p0 := one_cell hC.pb
     clear hC I1 hno hrow hsv cel e0 e1 e2 e3 e4 hxv hxg hst hmem
     obtain ⟨LS, hLS⟩ : ∃ LS, LS = (PRE ++ (en.take c).map (fun i => E.getD i undef)) := ⟨_, rfl⟩
     have HLS := hid hLS
     rw [← hLS] at C1 p0
     have LEN : Hid (LS.length ≤ 1000) := hid (by rw [hLS]; have := LPRE.out; simp; omega)
     have ml : w.heap.size + 1 + 1 < wr.heap.size := lt_of_block C1.out.pb
     clear hLS
     go_upto_region 11 with fail
     have D := hid (C1.out.below ((Below.refl _ _).drew))
     have DA := hid ((C1.out.below (below1 wr (.cells #[.slice so2 nodes.length sc2] 118))).below ((Below.refl _ _).drew))
     have NW := hid (World.news_of_block (block_below (heap_alloc_new wr (.cells #[.slice so2 nodes.length sc2] 118)) ((Below.refl _ _).drew)))
     have SZ : Hid (w.heap.size ≤ ((wr.alloc (.cells #[.slice so2 nodes.length sc2] 118)).drew).heap.size) := hid DA.out.bel.size
     have F63 : Hid (LS.length + 1 ≤ maxLen ∧ (LS.length + 1) * 24 ≤ 140737488355328) := hid (by have := LEN.out; unfold maxLen; omega)
     go_region_law
      (first
       | (refine step_append_lies _ (by rfl) _ _ _ (by rfl) w.heap.size 118 i0 _ 1 24 Tryz.underlying105 hi0 hz0 hz1 hz2 rfl (by omega) (.slice la LS.length lcap) LS.length LS (by simp [Act.eval]) (DA.out.o) ⟨wr.heap.size, 0, none⟩ 1 1 [.slice so2 nodes.length sc2] (by simp [Act.eval]) (by simp) NW.out (by intro u hu; simp at hu; subst hu; rfl) (by omega) F63.out.1 F63.out.2 SZ.out (wr.heap.size + 1) (by simp) ?_; intro gg cap' w3 hown1 hgrow hat hlt3; have O3 := hid hown1; have G3 := hid hgrow; have X3 := (hgrow.block _ (lt_of_block DA.out.pb) (fun e => own_far DA.out.o (by decide) DA.out.pb e.symm)).trans DA.out.pb; have r0 : w3.cell? ⟨w.heap.size + 1 + 1, 0, none⟩ = some (.slice la LS.length lcap) := (by simp [World.cell?, X3]); have fr1 := frozen_of_row w3 _ 0 _ _ X3; clear hown1 hgrow hat X3))
     all_goals
      have KK := Cr.add (sv := .slice so2 nodes.length sc2) C1.out (Y := (wr.alloc (.cells #[.slice so2 nodes.length sc2] 118)).drew) ((below1 _ _).drew) G3.out O3.out
      go_wp2_with fail
      go_roundg (en.length - (c + 1))
      case measure => omega
      case rel => exact ⟨c + 1, _, by omega, rfl, by go_num, by rw [TK.out, ← List.append_assoc, ← HLS.out]; exact KK⟩
    ·obtain rfl : c = en.length := by omega
     rw [List.take_length] at hC
     have FN := hid hC
     obtain ⟨r0, r1, r2, r3⟩ := quad_cells hC.rb
     obtain ⟨z0, z1, z2, z3, z4⟩ := five_cells hC.lb
     have fz := six_fr hC.lb
     have ml : w.heap.size + 1 + 1 < wr.heap.size := lt_of_block hC.pb
     clear hC
     go_wp2_with fail
     obtain ⟨k0, k1, k2, k3, k4⟩ := five_cells (row5 (a := .int .i64 tr) (b := .slice (some ⟨ge, 0, none⟩) ex.length ce) (c := .slice (some ⟨gn, 0, none⟩) en.length cn) (d := .int .i64 nx) (e := .func (.func 163) #[] #[.pointer (some ⟨w.heap.size + 1 + 1, 0, none⟩)]) FN.out.lb)
     refine bodyPost_ret (v := .agg #[.int .i64 tr, .slice (some ⟨ge, 0, none⟩) ex.length ce, .slice (some ⟨gn, 0, none⟩) en.length cn, .int .i64 nx, .func (.func 163) #[] #[.pointer (some ⟨w.heap.size + 1 + 1, 0, none⟩)]]) (by simp [results, Tryz.results125, go_sem, k0, k1, k2, k3, k4]) rfl ?_
     have tt : Turn (fun t => t = 194) 0 wr (set5 wr (w.heap.size + 1) (.int .i64 tr) (.slice (some ⟨ge, 0, none⟩) ex.length ce) (.slice (some ⟨gn, 0, none⟩) en.length cn) (.int .i64 nx) (.func (.func 163) #[] #[.pointer (some ⟨w.heap.size + 1 + 1, 0, none⟩)])) := turn5 FN.out.lb rfl
     have bb := bel5 (a := .int .i64 tr) (b := .slice (some ⟨ge, 0, none⟩) ex.length ce) (c := .slice (some ⟨gn, 0, none⟩) en.length cn) (d := .int .i64 nx) (e := .func (.func 163) #[] #[.pointer (some ⟨w.heap.size + 1 + 1, 0, none⟩)]) FN.out.bel (Nat.le_succ w.heap.size)
     have ea : Each _ l (ex.map (fun i => F.getD i undef) ++ [.slice ao an ac] ++ en.map (fun i => E.getD i undef)) (ex.map (fun i => (ss.getD i st0).exit) ++ [acts] ++ en.map (fun i => (ss.getD i st0).entry)) := each_append (each_append (each_map (fun x hx => ((HI.out.l1.cf x (Hex.out x hx)).below bb).base)) (each_one (HAC.out.below bb))) (each_map (fun x hx => ((HI.out.l1.ce x (Hen.out x hx)).below bb).base))
     have or := tt.own FN.out.o (by decide)
     rw [HPRE.out, HLS.out] at or
     exact ⟨w.heap.size + 1 + 1, lv, rfl, ⟨by have := tt.box FN.out.pb (by decide); exact this, ownsRow_base or (Nat.zero_le _), ea.1, ea.2⟩, bb⟩
end Go.Proofs.YtiimkhepplkocaaGreat
namespace Go.Proofs.YtiimkhepplkocaaGreat
open Go.RowKit Go.Sort
set_option linter.unusedVariables false
attribute [local go_sem ↓] Go.wp_at_zero Go.wp_at_succ
theorem Lists.below {X Y : World} {l : LimD} {P : Nat} {lv : Value} {LS : List Value} {xs : List (List StmD)} (h : Lists X l P lv LS xs) (hb : Below X.heap.size X Y) : Lists Y l P lv LS xs := h.stir (B := 0) (Stir.of_below hb)
theorem entsRow : ∀ (args : Array Value) (w : World), (callFunc 163 args).run Tryz.prog w = .ok (.enter 163 args) w := enter_of (f := 163) Tryz.func163 (by kernel_rfl) rfl
theorem flat_le {K : List Nat} {g : Nat → List StmD} (h : ∀ x, x ∈ K → (g x).length ≤ 50) : ((K.map g).flatten).length ≤ K.length * 50 := by
 induction K with
 | nil => simp
 | cons x r ih =>
  have h1 := h x (by simp)
  have h2 := ih (fun y hy => h y (by simp [hy]))
  rw [List.map_cons, List.flatten_cons, List.length_append, List.length_cons, Nat.succ_mul]
  omega
theorem lift_len {l : LimD} {xs : List StmD} {vs : List Value} (h : liftAll l xs = some vs) : xs.length ≤ 50 := by
 unfold liftAll at h
 split at h
 ·rename_i hh; exact hh.2
 ·cases h
def bootS (ss : List StD) : List StmD := ((bootOf ss).map (fun i => (ss.getD i st0).entry)).flatten
theorem bootOf_lt {ss : List StD} {tn : Nat} (G : GoodT ss tn) : ∀ x, x ∈ bootOf ss → x < ss.length := by
 intro x hx
 unfold bootOf at hx
 rcases List.mem_cons.1 hx with h | h
 ·subst h; exact G.n1
 ·exact down_lt G _ 0 G.n1 rfl x h
theorem bootOf_len {ss : List StD} {tn : Nat} (G : GoodT ss tn) : (bootOf ss).length ≤ 201 := by
 have := down_len G (ss.length - 0) 0 G.n1 rfl
 have := G.n2
 unfold bootOf
 simp
 omega
set_option maxRecDepth 100000 in
set_option maxHeartbeats 8000000 in
theorem firstStep_any {w0 : World} {cx lx : Array Value} {N : Nat → Nat} {tg tcap : Nat} {ss : List StD} {ts : List TrD} {n : Nat} {l : LimD} {B P0 M tn : Nat} {E F : List Value} {ev xv : Value} {L lets act : Nat → Value} (hC : Chk ss ts l) (hn : ss.length = n) (kA vA : Option Addr) (kn kc vn vc : Nat) (ks vs : List Int) (w : World) (h : L2 w0 cx lx N tg tcap ss ts n l B P0 M tn E F ev xv L lets act w)
  (hkn : kn ≤ 1048576) (hvn : vn ≤ 1048576) (hk : SliceOf w kA kn ks) (hv : SliceOf w vA vn vs) (hbp : ks.length = vs.length ∧ vs.length ≤ 32 ∧ ∀ i, i < ks.length → 1 ≤ ks.getD i 0 ∧ ks.getD i 0 ≤ 7) (hlv : l.v = vs.length) :
  Calls Tryz.prog 70 #[.pointer (some ⟨M, 0, none⟩), .agg #[.slice kA kn kc, .slice vA vn vc]] w fun e w' => ∃ kv vv ev, e = .returned (.tuple #[.int .i64 (bootTo ss), .agg #[kv, vv], ev]) ∧ OutE w.heap.size w' kv vv ev ks (execS l.v ks 0 vs (bootS ss)).1 (execS l.v ks 0 vs (bootS ss)).2 ∧ Below w.heap.size w w' := by
 subst hn
 have G := hC.good
 obtain ⟨W, hW⟩ : ∃ W, W = (w.alloc (.cells #[.slice kA kn kc, .slice vA vn vc] 32)).alloc (.cells #[.slice none 0 0, .slice none 0 0] 32) := ⟨_, rfl⟩
 have bW : Below w.heap.size w W := by rw [hW]; exact below2 _ _ _
 have q2 : W.heap[w.heap.size + 1]? = some (.cells #[.slice none 0 0, .slice none 0 0] 32 (0, 0)) := by
  rw [hW]; simpa using heap_alloc_new (w.alloc (.cells #[.slice kA kn kc, .slice vA vn vc] 32)) (.cells #[.slice none 0 0, .slice none 0 0] 32)
 have CM := hid (momentOf_any kA vA kn kc vn vc ks vs 0 W hkn hvn (hk.below bW) (hv.below bW))
 have HI : Hid (∀ w', Below w.heap.size w w' → L2 w0 cx lx N tg tcap ss ts ss.length l B P0 M tn E F ev xv L lets act w') := hid (fun w' hb => h.below hb)
 have BH := hid (fun w' (hb : Below w.heap.size w w') => bootHeader_any N ss _ G M tg ss.length tcap w' (HI.out w' hb).l1.mb.nd (five_cells (HI.out w' hb).l1.mac.box).1 G.n1 (tree_cell (HI.out w' hb).l1.mb.tr G.n1))
 have CR := hid (fun ge gn cn w' (hb : Below w.heap.size w w') o1 o2 => compileRow_any (-1) (bootTo ss : Int) ge 0 gn cn [] (bootOf ss) none 0 0 [] w' (HI.out w' hb) (by simp) (by have := bootOf_len G; omega) (fun x hx => by simp at hx) (bootOf_lt G) o1 o2 ⟨[], rfl, World.ownsRow_nil _ _ _ _⟩)
 have Q2 := hid q2
 have BW := hid bW
 have HW := hid hW
 have HP := hid hbp
 have HLV := hid hlv
 have hent := entsRow
 have LB := hid (bootOf_len G)
 have FL : Hid ((bootS ss).length ≤ 20000) := hid (by
  have h1 := flat_le (K := bootOf ss) (g := fun i => (ss.getD i st0).entry) (fun x hx => by obtain ⟨vs, hv⟩ := hC.ent x (bootOf_lt G x hx); exact lift_len hv)
  have h2 := bootOf_len G
  unfold bootS
  omega)
 have XS : Hid (([].map (fun i => (ss.getD i st0).exit) ++ [[]] ++ (bootOf ss).map (fun i => (ss.getD i st0).entry)).flatten = bootS ss) := hid (by simp [bootS])
 rw [hW] at CM
 clear h hk hv q2 bW hW hbp hlv
 go_enter Tryz.func70, Tryz.ntmps70
 go_wp2_with (first
  | (go_at_call 67; refine CM.out.mono ?_; rintro e w1 ⟨mb, rfl, hm, hb⟩; rw [← HW.out] at hm hb; have M1 := hid hm; have B1 := hid (BW.out.trans (hb.mono BW.out.size)); have Z1 := hid (block_below Q2.out hb); have S1 := hid hb.size; clear hm hb)
  | (go_at_call 44; refine (BH.out _ B1.out).mono ?_; rintro e w2 ⟨ge, gn, cn, rfl, o1, o2, _, hb⟩; have B2 := hid (B1.out.trans (hb.mono B1.out.size)); have M2 := hid (M1.out.below hb); have Z2 := hid (block_below Z1.out hb); have S2 := hid (Nat.le_trans S1.out hb.size); have O1 := hid o1; have O2 := hid o2; clear hb o1 o2)
  | (go_at_call 125; refine (CR.out ge gn cn _ B2.out (ownsRow_base O1.out (Nat.zero_le _)) (ownsRow_base O2.out (Nat.zero_le _))).mono ?_; rintro e w3 ⟨P, lv, rfl, hL, hb⟩; have B3 := hid (B2.out.trans (hb.mono B2.out.size)); have M3 := hid (M2.out.below hb); have Z3 := hid (block_below Z2.out hb); have S3 := hid (Nat.le_trans S2.out hb.size); have L3 := hid hL; clear hb hL)
  | (go_at_call 163; refine (runAll_any l P lv _ _ mb W.heap.size ks vs 0 [] _ (L3.out.below (below1 _ _)) HLV.out HP.out.1 HP.out.2.2 (by have := LB.out; simp; omega) (by have := FL.out; rw [XS.out]; simp; omega) (by have := S3.out; simp; omega) (M3.out.below (below1 _ _))).mono ?_; rw [XS.out]; rintro e w5 ⟨rfl, hm, hst⟩; have S5 := hid hst; obtain ⟨kg, kc', vg, vc', ee, m1, ok, ov, hne, hmb, hev, hev0⟩ := hm; obtain ⟨ea, en, ec, rfl⟩ : ∃ ea en ec, ee = .slice ea en ec := (by rcases hev.2 with ⟨h, _⟩ | ⟨g, cap, cur, h, _⟩ <;> exact ⟨_, _, _, h⟩); have M5 := hid m1; have OK5 := hid ok; have OV5 := hid ov; have OE5 := hid hev; obtain ⟨t0, t1, t2, t3⟩ := quad_cells m1; clear hst m1 ok ov hev hev0))
 have B4 : Hid (Below w.heap.size w (w3.alloc (.cells #[.int .i64 (-1), .slice (some ⟨ge, 0, none⟩) 0 0, .slice (some ⟨gn, 0, none⟩) (bootOf ss).length cn, .int .i64 (bootTo ss : Nat), .func (.func 163) #[] #[.pointer (some ⟨P, 0, none⟩)]] 194))) := hid (B3.out.trans ((below1 _ _).mono B3.out.size))
 have Z5 := hid (S5.out.box (block_below Z3.out (below1 _ _)) (by decide) (by decide) (by decide))
 have R5 := hid (S5.out.box (heap_alloc_new w3 _) (by decide) (by decide) (by decide))
 have B5 : Hid (Below w.heap.size w w5) := hid (B4.out.trans ((S5.out.below (by have := S3.out; simp; omega)).mono BW.out.size))
 obtain ⟨x0, x1, x2, x3, x4⟩ := five_cells R5.out
 have nmb : ¬ (mb = w.heap.size + 1) := by have := hmb; have := lt_of_block Q2.out; omega
 have nmb2 : ¬ (w.heap.size + 1 = mb) := fun e => nmb e.symm
 have nrb : ¬ (w3.heap.size = w.heap.size + 1) := by have := lt_of_block Z3.out; omega
 have nrb2 : ¬ (w.heap.size + 1 = w3.heap.size) := fun e => nrb e.symm
 have CBk := hid (bank_any mb _ _ _ _ w5.drew ⟨_, _, _, rfl⟩ ⟨_, _, _, rfl⟩ M5.out)
 clear t0 t1 t2 x0 x1 x2 x4
 go_region_held3 (fun w' => w'.cell? ⟨w3.heap.size, 3, none⟩ = some (.int .i64 (bootTo ss : Nat)) ∧ w'.cell? ⟨mb, 3, none⟩ = some (.slice ea en ec)) (first | (with_reducible exact SX.out) | go_keep | (exact And.intro ((cell_far (fun e => nrb e)).trans ((cell_far (fun e => nrb e)).trans SX.out.1)) ((cell_far (fun e => nmb e)).trans ((cell_far (fun e => nmb e)).trans SX.out.2))))
  (first
   | (go_at_call 69; refine CBk.out.mono ?_; rintro e w6 ⟨rfl, hb⟩; have B6 : Hid (Below w5.heap.size w5 w6) := hid (dn0 hb); have SX := hid (And.intro ((dn0 hb).cell (p := ⟨w3.heap.size, 3, none⟩) (lt_of_block R5.out) |>.trans x3) ((dn0 hb).cell (p := ⟨mb, 3, none⟩) (lt_of_block M5.out) |>.trans t3)); have Z6 := hid (block_below Z5.out (dn0 hb)); obtain ⟨p0, p1, p2, p3⟩ := pair_cells Z6.out; clear hb))
 all_goals
  go_wp2_with fail
  obtain ⟨y0, y1⟩ := two_cells' (out_cells (u1 := .slice (some ⟨kg, 0, none⟩) ks.length kc') (u2 := .slice (some ⟨vg, 0, none⟩) (execS l.v ks 0 vs (bootS ss)).1.length vc') Z6.out)
  refine bodyPost_ret (v := .tuple #[.int .i64 (bootTo ss : Nat), .agg #[.slice (some ⟨kg, 0, none⟩) ks.length kc', .slice (some ⟨vg, 0, none⟩) (execS l.v ks 0 vs (bootS ss)).1.length vc'], .slice ea en ec]) (by simp [results, Tryz.results70, go_sem, y0, y1]) rfl ?_
  refine ⟨_, _, _, rfl, ?_, out_bel (B5.out.trans (B6.out.mono B5.out.size)) (by omega)⟩
  have h5 : OutE w.heap.size w6 (.slice (some ⟨kg, 0, none⟩) ks.length kc') (.slice (some ⟨vg, 0, none⟩) (execS l.v ks 0 vs (bootS ss)).1.length vc') (.slice ea en ec) ks (execS l.v ks 0 vs (bootS ss)).1 (execS l.v ks 0 vs (bootS ss)).2 :=
   (OutE.mk (ownsRow_base OK5.out.1 BW.out.size) (ownsRow_base OV5.out.1 BW.out.size) (by simpa using ownsRow_base OE5.out BW.out.size) (fun b e => by simp [Value.ownBlock] at e ⊢; omega) : OutE w.heap.size w5 _ _ _ _ _ _).below B6.out
  exact h5.set2 Z6.out (by decide) (by decide) 0 1 _ _
end Go.Proofs.YtiimkhepplkocaaGreat
namespace Go.Proofs.YtiimkhepplkocaaGreat
open Go.RowKit Go.Sort
set_option linter.unusedVariables false
attribute [local go_sem ↓] Go.wp_at_zero Go.wp_at_succ
def fitB (ks vs : List Int) (v : Int) : Bool := bankB ks vs && decide ((vs.length : Int) = v)
set_option maxHeartbeats 1600000 in
theorem bankFits_any (kA vA : Option Addr) (kn kc vn vc : Nat) (ks vs : List Int) (o s t v : Int) (w : World) (hkn : kn ≤ 1048576) (hvn : vn ≤ 1048576) (hk : SliceOf w kA kn ks) (hv : SliceOf w vA vn vs) :
  Calls Tryz.prog 57 #[.agg #[.slice kA kn kc, .slice vA vn vc], .agg #[.int .i64 o, .int .i64 s, .int .i64 t, .int .i64 v]] w fun e w' => e = .returned (.bool (fitB ks vs v)) ∧ Below w.heap.size w w' := by
 have EV : Hid (vs.length = vn) := hid hv.1
 obtain ⟨W, hW⟩ : ∃ W, W = (w.alloc (.cells #[.slice kA kn kc, .slice vA vn vc] 32)).alloc (.cells #[.int .i64 o, .int .i64 s, .int .i64 t, .int .i64 v] 40) := ⟨_, rfl⟩
 have bW : Below w.heap.size w W := by rw [hW]; exact below2 _ _ _
 have q1 : W.heap[w.heap.size]? = some (.cells #[.slice kA kn kc, .slice vA vn vc] 32 (0, 0)) := by rw [hW]; exact block_below (heap_alloc_new w _) (below1 _ _)
 have q2 : W.heap[w.heap.size + 1]? = some (.cells #[.int .i64 o, .int .i64 s, .int .i64 t, .int .i64 v] 40 (0, 0)) := by
  rw [hW]; simpa using heap_alloc_new (w.alloc (.cells #[.slice kA kn kc, .slice vA vn vc] 32)) (.cells #[.int .i64 o, .int .i64 s, .int .i64 t, .int .i64 v] 40)
 obtain ⟨b, hb⟩ : ∃ b, b = bankB ks vs := ⟨_, rfl⟩
 have C := hid (implBankOK_any _ _ kn vn kc vc ks vs W (by omega) (by omega) (hk.below bW) (hv.below bW))
 rw [← hb] at C
 have Q1 := hid q1
 have Q2 := hid q2
 have BW := hid bW
 have HW := hid hW
 rw [hW] at C
 have EF : Hid (fitB ks vs v = (b && decide ((vn : Int) = v))) := hid (by unfold fitB; rw [← hb, EV.out])
 rw [EF.out]
 clear hk hv q1 q2 bW hW hb
 by_cases hvv : (vn : Int) = v
 ·have hd : decide ((vn : Int) = v) = true := by simpa using hvv
  have hd2 : ((vn : Int) == v) = true := by simpa using hvv
  rw [hd]
  have HVV := hid hvv
  clear hd hvv
  cases b
  all_goals
   go_enter Tryz.func57, Tryz.ntmps57
   go_wp2_with (go_at_call 61; refine C.out.mono ?_; rintro e w1 ⟨rfl, hb⟩; rw [← HW.out] at hb; have B1 := hid (BW.out.trans (hb.mono BW.out.size)); obtain ⟨p0, p1, _, _⟩ := pair_cells (block_below Q1.out hb); obtain ⟨l0, l1, l2, l3⟩ := quad_cells (block_below Q2.out hb); clear hb)
   go_ret
   exact ⟨ret_bool (by simp), B1.out⟩
 ·have hd : decide ((vn : Int) = v) = false := by simpa using hvv
  have hd2 : ((vn : Int) == v) = false := by simpa using hvv
  rw [hd]
  have HVV := hid hvv
  clear hd
  cases b
  all_goals
   go_enter Tryz.func57, Tryz.ntmps57
   go_wp2_with (go_at_call 61; refine C.out.mono ?_; rintro e w1 ⟨rfl, hb⟩; rw [← HW.out] at hb; have B1 := hid (BW.out.trans (hb.mono BW.out.size)); obtain ⟨p0, p1, _, _⟩ := pair_cells (block_below Q1.out hb); obtain ⟨l0, l1, l2, l3⟩ := quad_cells (block_below Q2.out hb); clear hb)
   go_ret
   exact ⟨ret_bool (by simp), B1.out⟩
def okBt (ss : List StD) (ts : List TrD) (l : LimD) (ks vs : List Int) : Bool := decide ((checkOf ss ts l).1 = 0) && fitB ks vs l.v
def btL (ss : List StD) (ts : List TrD) (l : LimD) (ks vs : List Int) : Int := if okBt ss ts l ks vs then (bootTo ss : Int) else -1
def btK (ss : List StD) (ts : List TrD) (l : LimD) (ks vs : List Int) : List Int := if okBt ss ts l ks vs then ks else []
def btV (ss : List StD) (ts : List TrD) (l : LimD) (ks vs : List Int) : List Int := if okBt ss ts l ks vs then (execS vs.length ks 0 vs (bootS ss)).1 else []
def btE (ss : List StD) (ts : List TrD) (l : LimD) (ks vs : List Int) : List EffD := if okBt ss ts l ks vs then (execS vs.length ks 0 vs (bootS ss)).2 else []
theorem OutE.under {B B' : Nat} {w : World} {kv vv ev : Value} {ks vs : List Int} {es : List EffD} (h : OutE B w kv vv ev ks vs es) (hB : B' ≤ B) : OutE B' w kv vv ev ks vs es := ⟨ownsRow_base h.k hB, ownsRow_base h.v hB, ownsRow_base h.e hB, h.ne⟩
structure Bx (w : World) (cx lx bx : Array Value) (X : World) : Prop where
 bel : Below w.heap.size w X
 c : X.heap[w.heap.size]? = some (.cells cx 36 (0, 0))
 l : X.heap[w.heap.size + 1]? = some (.cells lx 40 (0, 0))
 b : X.heap[w.heap.size + 1 + 1]? = some (.cells bx 32 (0, 0))
 r : X.heap[w.heap.size + 1 + 1 + 1]? = some (.cells #[.slice none 0 0, .slice none 0 0] 32 (0, 0))
theorem Bx.below {w : World} {cx lx bx : Array Value} {X Y : World} (h : Bx w cx lx bx X) (hb : Below X.heap.size X Y) : Bx w cx lx bx Y := ⟨h.bel.trans (hb.mono h.bel.size), block_below h.c hb, block_below h.l hb, block_below h.b hb, block_below h.r hb⟩
theorem bx_start (w : World) (cx lx bx : Array Value) : Bx w cx lx bx ((((w.alloc (.cells cx 36)).alloc (.cells lx 40)).alloc (.cells bx 32)).alloc (.cells #[.slice none 0 0, .slice none 0 0] 32)) := by
 have h2 := heap_alloc_new (w.alloc (.cells cx 36)) (.cells lx 40)
 have h3 := heap_alloc_new ((w.alloc (.cells cx 36)).alloc (.cells lx 40)) (.cells bx 32)
 have h4 := heap_alloc_new (((w.alloc (.cells cx 36)).alloc (.cells lx 40)).alloc (.cells bx 32)) (.cells #[.slice none 0 0, .slice none 0 0] 32)
 simp only [World.size_alloc] at h2 h3 h4
 exact ⟨(below3 _ _ _ _).alloc (by simp; omega) _, block_below (block_below (block_below (heap_alloc_new w _) (below1 _ _)) (below1 _ _)) (below1 _ _), block_below (block_below h2 (below1 _ _)) (below1 _ _), block_below h3 (below1 _ _), h4⟩
set_option maxRecDepth 100000 in
set_option maxHeartbeats 8000000 in
theorem implBoot_any (so tq : Option Addr) (n sc tn tc : Nat) (ss : List StD) (ts : List TrD) (o s t v : Int) (kA vA : Option Addr) (kn kc vn vc : Nat) (ks vs : List Int) (w : World) (hn : n ≤ 9223372036854775807) (htn : tn ≤ 9223372036854775807) (hkn : kn ≤ 1048576) (hvn : vn ≤ 1048576) (hs : StatesOf w so n ss) (ht : TransOf w tq tn ts) (hk : SliceOf w kA kn ks) (hv : SliceOf w vA vn vs) :
  Calls Tryz.prog 20 #[.agg #[.slice so n sc, .slice tq tn tc], .agg #[.int .i64 o, .int .i64 s, .int .i64 t, .int .i64 v], .agg #[.slice kA kn kc, .slice vA vn vc]] w fun e w' => ∃ kv vv ev, e = .returned (.tuple #[.int .i64 (btL ss ts ⟨o, s, t, v⟩ ks vs), .agg #[kv, vv], ev]) ∧ OutE w.heap.size w' kv vv ev (btK ss ts ⟨o, s, t, v⟩ ks vs) (btV ss ts ⟨o, s, t, v⟩ ks vs) (btE ss ts ⟨o, s, t, v⟩ ks vs) ∧ Below w.heap.size w w' := by
 have EN := hid (bx_start w #[.slice so n sc, .slice tq tn tc] #[.int .i64 o, .int .i64 s, .int .i64 t, .int .i64 v] #[.slice kA kn kc, .slice vA vn vc])
 have HS : Hid (∀ w', Below w.heap.size w w' → SliceOf w' kA kn ks ∧ SliceOf w' vA vn vs) := fun w' h => ⟨hk.below h, hv.below h⟩
 have BF := hid (fun w' (hb : Below w.heap.size w w') => bankFits_any kA vA kn kc vn vc ks vs o s t v w' hkn hvn (HS.out w' hb).1 (HS.out w' hb).2)
 by_cases hc : (checkOf ss ts ⟨o, s, t, v⟩).1 = 0
 case neg =>
  have A1 : Hid (okBt ss ts ⟨o, s, t, v⟩ ks vs = false) := hid (by unfold okBt; rw [decide_eq_false hc]; rfl)
  have C := hid (machineOf_no so tq n sc tn tc ss ts o s t v _ hn htn (hs.below EN.out.bel) (ht.below EN.out.bel) hc)
  clear hs ht hk hv hc
  go_enter Tryz.func20, Tryz.ntmps20
  go_wp2_with (go_at_call 43; refine C.out.mono ?_; rintro e w1 ⟨rfl, hb⟩; have B1 := hid (EN.out.below hb); obtain ⟨z0, z1, z2, z3⟩ := pair_cells B1.out.r; have zl := lt_of_block B1.out.r; clear hb)
  obtain ⟨y0, y1⟩ := two_cells' (block_below (out_cells (u1 := .slice none 0 0) (u2 := .slice none 0 0) B1.out.r) (below1 _ OE))
  refine bodyPost_ret (v := .tuple #[.int .i64 (-1), .agg #[.slice none 0 0, .slice none 0 0], .slice (some ⟨w1.heap.size, 0, none⟩) 0 0]) (by simp [results, Tryz.results20, go_sem, y0, y1]) rfl ?_
  refine ⟨.slice none 0 0, .slice none 0 0, .slice (some ⟨w1.heap.size, 0, none⟩) 0 0, by rw [show btL ss ts ⟨o, s, t, v⟩ ks vs = -1 from by simp [btL, A1.out]], ?_, (out_bel B1.out.bel (by omega)).alloc (by have := B1.out.bel.size; simp; omega) _⟩
  simp only [btK, btV, btE, A1.out]
  exact outE_none (by simpa using new1 ((w1.setCell ⟨w.heap.size + 1 + 1 + 1, 0, none⟩ (.slice none 0 0)).setCell ⟨w.heap.size + 1 + 1 + 1, 1, none⟩ (.slice none 0 0)) OE) B1.out.bel.size
 have C := hid (machineOf_ok so tq n sc tn tc ss ts o s t v _ hn htn (hs.below EN.out.bel) (ht.below EN.out.bel) hc)
 have HC := hid (chk_of hc)
 have SL := hid hs.1
 obtain ⟨fb, hfb⟩ : ∃ b, b = fitB ks vs v := ⟨_, rfl⟩
 rw [← hfb] at BF
 cases fb with
 | false =>
  have A1 : Hid (okBt ss ts ⟨o, s, t, v⟩ ks vs = false) := hid (by unfold okBt; rw [← hfb]; simp)
  clear hs ht hk hv hc hfb
  go_enter Tryz.func20, Tryz.ntmps20
  go_wp2_with (first
   | (go_at_call 43; refine C.out.mono ?_; rintro e w1 ⟨x0, N, tg, tcap, B, P, M, E, F, ev, xv, L, lets, act, rfl, hx0, hL2, hb⟩; have B1 := hid (EN.out.below hb); have HL2 := hid hL2; obtain ⟨p0, p1, _, _⟩ := pair_cells B1.out.b; obtain ⟨l0, l1, l2, l3⟩ := quad_cells B1.out.l; clear hb hL2 hx0)
   | (go_at_call 57; refine (BF.out _ B1.out.bel).mono ?_; rintro e w2 ⟨rfl, hb⟩; have B2 := hid (B1.out.below hb); have L2h := hid (HL2.out.below hb); obtain ⟨p0, p1, _, _⟩ := pair_cells B2.out.b; obtain ⟨z0, z1, z2, z3⟩ := pair_cells B2.out.r; have zl := lt_of_block B2.out.r; clear hb))
  obtain ⟨y0, y1⟩ := two_cells' (block_below (out_cells (u1 := .slice none 0 0) (u2 := .slice none 0 0) B2.out.r) (below1 _ OE))
  refine bodyPost_ret (v := .tuple #[.int .i64 (-1), .agg #[.slice none 0 0, .slice none 0 0], .slice (some ⟨w2.heap.size, 0, none⟩) 0 0]) (by simp [results, Tryz.results20, go_sem, y0, y1]) rfl ?_
  refine ⟨.slice none 0 0, .slice none 0 0, .slice (some ⟨w2.heap.size, 0, none⟩) 0 0, by rw [show btL ss ts ⟨o, s, t, v⟩ ks vs = -1 from by simp [btL, A1.out]], ?_, (out_bel B2.out.bel (by omega)).alloc (by have := B2.out.bel.size; simp; omega) _⟩
  simp only [btK, btV, btE, A1.out]
  exact outE_none (by simpa using new1 ((w2.setCell ⟨w.heap.size + 1 + 1 + 1, 0, none⟩ (.slice none 0 0)).setCell ⟨w.heap.size + 1 + 1 + 1, 1, none⟩ (.slice none 0 0)) OE) B2.out.bel.size
 | true =>
  have A1 : Hid (okBt ss ts ⟨o, s, t, v⟩ ks vs = true) := hid (by unfold okBt; rw [← hfb, decide_eq_true hc]; rfl)
  have hf2 : bankB ks vs = true ∧ (vs.length : Int) = v := by
   unfold fitB at hfb
   have h2 := hfb.symm
   rw [Bool.and_eq_true, decide_eq_true_iff] at h2
   exact h2
  have BP := hid (bankP_of hf2.1)
  have HV := hid hf2.2
  clear hs ht hk hv hc hfb hf2
  go_enter Tryz.func20, Tryz.ntmps20
  go_wp2_with (first
   | (go_at_call 43; refine C.out.mono ?_; rintro e w1 ⟨x0, N, tg, tcap, B, P, M, E, F, ev, xv, L, lets, act, rfl, hx0, hL2, hb⟩; have B1 := hid (EN.out.below hb); have HL2 := hid hL2; obtain ⟨p0, p1, _, _⟩ := pair_cells B1.out.b; obtain ⟨l0, l1, l2, l3⟩ := quad_cells B1.out.l; clear hb hL2 hx0)
   | (go_at_call 57; refine (BF.out _ B1.out.bel).mono ?_; rintro e w2 ⟨rfl, hb⟩; have B2 := hid (B1.out.below hb); have L2h := hid (HL2.out.below hb); obtain ⟨p0, p1, _, _⟩ := pair_cells B2.out.b; obtain ⟨z0, z1, z2, z3⟩ := pair_cells B2.out.r; have zl := lt_of_block B2.out.r; clear hb)
   | (go_at_call 70; refine (firstStep_any HC.out SL.out kA vA kn kc vn vc ks vs _ L2h.out hkn hvn (HS.out _ B2.out.bel).1 (HS.out _ B2.out.bel).2 BP.out HV.out.symm).mono ?_; rintro e w3 ⟨kv, vv, ee, rfl, ho, hb⟩; obtain ⟨ka, kcc, rfl⟩ := slice_of ho.k; obtain ⟨va, vcc, rfl⟩ := slice_of ho.v; obtain ⟨ea, ecc, rfl⟩ := slice_of ho.e; have B3 := hid (B2.out.below hb); have O3 := hid ho; have SZ := hid B2.out.bel.size; obtain ⟨z0, z1, z2, z3⟩ := pair_cells B3.out.r; have zl := lt_of_block B3.out.r; clear ho hb))
  obtain ⟨y0, y1⟩ := two_cells' (out_cells (u1 := .slice ka ks.length kcc) (u2 := .slice va (execS v ks 0 vs (bootS ss)).1.length vcc) B3.out.r)
  refine bodyPost_ret (v := .tuple #[.int .i64 (bootTo ss : Nat), .agg #[.slice ka ks.length kcc, .slice va (execS v ks 0 vs (bootS ss)).1.length vcc], .slice ea (execS v ks 0 vs (bootS ss)).2.length ecc]) (by simp [results, Tryz.results20, go_sem, y0, y1]) rfl ?_
  refine ⟨.slice ka ks.length kcc, .slice va (execS v ks 0 vs (bootS ss)).1.length vcc, .slice ea (execS v ks 0 vs (bootS ss)).2.length ecc, by rw [show btL ss ts ⟨o, s, t, v⟩ ks vs = (bootTo ss : Int) from by simp [btL, A1.out]], ?_, out_bel B3.out.bel (by omega)⟩
  simp only [btK, btV, btE, A1.out, if_true, HV.out]
  exact (O3.out.under SZ.out).set2 B3.out.r (by decide) (by decide) 0 1 _ _
end Go.Proofs.YtiimkhepplkocaaGreat

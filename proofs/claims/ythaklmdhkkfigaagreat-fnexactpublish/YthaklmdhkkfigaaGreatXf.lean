import Derived.Shelf.SlSortCmp.Whole1
import Derived.Shelf.SlicesG.Cmp
import Derived.Ground.SlsfProg
import Derived.Ground.SlgcProg
import Derived.Test.YthaklmdhkkfigaaGreatProg
import Derived.Test.YthaklmdhkkfigaaGreatXe
import Derived.Test.YthaklmdhkkfigaaGreatKx11
namespace Go.Proofs.YthaklmdhkkfigaaGreat
open Go.Shelf
def Tryz.sortL_ren : Go.Shelf.Ren := ⟨fun | 6 => 105 | 15 => 133 | 14 => 132 | 28 => 174 | 29 => 175 | 20 => 166 | 21 => 167 | 22 => 168 | 23 => 169 | 24 => 170 | 25 => 171 | 26 => 172 | 27 => 173 | 46 => 201 | 47 => 202 | 48 => 203 | 49 => 204 | 50 => 205 | 57 => 224 | n => n, fun | 22 => 80 | 24 => 146 | 25 => 186 | 3 => 3 | 39 => 218 | 0 => 0 | 53 => 85 | 55 => 94 | 4 => 4 | 46 => 253 | 45 => 252 | 50 => 257 | 5 => 5 | 9 => 9 | 66 => 287 | 70 => 291 | 76 => 314 | 77 => 179 | n => n, fun | n => n⟩
theorem Tryz.sortL : Go.Proofs.SlLaysF.n6 Tryz.prog Tryz.sortL_ren := {
  mixed := by kernel_rfl
  f6 := ⟨Tryz.f105.name, by decide, Tryz.func105.trans (congrArg some (by kernel_rfl))⟩
  f14 := ⟨Tryz.f132.name, by decide, Tryz.func132.trans (congrArg some (by kernel_rfl))⟩
  f15 := Tryz.func133.trans (congrArg some (by kernel_rfl))
  f20 := ⟨Tryz.f166.name, by decide, Tryz.func166.trans (congrArg some (by kernel_rfl))⟩
  f21 := ⟨Tryz.f167.name, by decide, Tryz.func167.trans (congrArg some (by kernel_rfl))⟩
  f22 := ⟨Tryz.f168.name, by decide, Tryz.func168.trans (congrArg some (by kernel_rfl))⟩
  f23 := ⟨Tryz.f169.name, by decide, Tryz.func169.trans (congrArg some (by kernel_rfl))⟩
  f24 := ⟨Tryz.f170.name, by decide, Tryz.func170.trans (congrArg some (by kernel_rfl))⟩
  f25 := ⟨Tryz.f171.name, by decide, Tryz.func171.trans (congrArg some (by kernel_rfl))⟩
  f26 := ⟨Tryz.f172.name, by decide, Tryz.func172.trans (congrArg some (by kernel_rfl))⟩
  f27 := ⟨Tryz.f173.name, by decide, Tryz.func173.trans (congrArg some (by kernel_rfl))⟩
  f28 := Tryz.func174.trans (congrArg some (by kernel_rfl))
  f29 := Tryz.func175.trans (congrArg some (by kernel_rfl))
  f46 := ⟨Tryz.f201.name, by decide, Tryz.func201.trans (congrArg some (by kernel_rfl))⟩
  f47 := Tryz.func202.trans (congrArg some (by kernel_rfl))
  f48 := Tryz.func203.trans (congrArg some (by kernel_rfl))
  f49 := ⟨Tryz.f204.name, by decide, Tryz.func204.trans (congrArg some (by kernel_rfl))⟩
  f50 := ⟨Tryz.f205.name, by decide, Tryz.func205.trans (congrArg some (by kernel_rfl))⟩
  f57 := ⟨Tryz.f224.name, by decide, Tryz.func224.trans (congrArg some (by kernel_rfl))⟩
  t0 := Tryz.underlying0
  a0 := Tryz.isAgg0
  z0 := Tryz.sizeOf0
  v0 := Tryz.zeroValue0
  t3 := Tryz.underlying3
  a3 := Tryz.isAgg3
  z3 := Tryz.sizeOf3
  v3 := Tryz.zeroValue3
  t4 := Tryz.underlying4
  a4 := Tryz.isAgg4
  z4 := Tryz.sizeOf4
  v4 := Tryz.zeroValue4
  t5 := Tryz.underlying5
  a5 := Tryz.isAgg5
  z5 := Tryz.sizeOf5
  v5 := Tryz.zeroValue5
  t9 := Tryz.underlying9
  a9 := Tryz.isAgg9
  z9 := Tryz.sizeOf9
  v9 := Tryz.zeroValue9
  t22 := Tryz.underlying80
  a22 := Tryz.isAgg80
  z22 := Tryz.sizeOf80
  v22 := Tryz.zeroValue80
  a24 := Tryz.isAgg146
  z24 := Tryz.sizeOf146
  t25 := Tryz.underlying186
  a25 := Tryz.isAgg186
  z25 := Tryz.sizeOf186
  v25 := Tryz.zeroValue186
  t39 := Tryz.underlying218
  a39 := Tryz.isAgg218
  z39 := Tryz.sizeOf218
  v39 := Tryz.zeroValue218
  t45 := Tryz.underlying252
  a45 := Tryz.isAgg252
  z45 := Tryz.sizeOf252
  v45 := Tryz.zeroValue252
  t46 := Tryz.underlying253
  a46 := Tryz.isAgg253
  z46 := Tryz.sizeOf253
  v46 := Tryz.zeroValue253
  t50 := Tryz.underlying257
  a50 := Tryz.isAgg257
  z50 := Tryz.sizeOf257
  v50 := Tryz.zeroValue257
  t53 := Tryz.underlying85
  a53 := Tryz.isAgg85
  z53 := Tryz.sizeOf85
  v53 := Tryz.zeroValue85
  t55 := Tryz.underlying94
  a55 := Tryz.isAgg94
  z55 := Tryz.sizeOf94
  v55 := Tryz.zeroValue94
  t66 := Tryz.underlying287
  a66 := Tryz.isAgg287
  z66 := Tryz.sizeOf287
  v66 := Tryz.zeroValue287
  t70 := Tryz.underlying291
  a70 := Tryz.isAgg291
  z70 := Tryz.sizeOf291
  v70 := Tryz.zeroValue291
  t76 := Tryz.underlying314
  a76 := Tryz.isAgg314
  z76 := Tryz.sizeOf314
  v76 := Tryz.zeroValue314
  t77 := Tryz.underlying179
  a77 := Tryz.isAgg179
  z77 := Tryz.sizeOf179
  v77 := Tryz.zeroValue179 }
def Tryz.cmpL_ren : Go.Shelf.Ren := ⟨fun | 5 => 107 | 7 => 134 | n => n, fun | 22 => 3 | 3 => 3 | 4 => 4 | n => n, fun | n => n⟩
theorem Tryz.cmpL : Go.Proofs.SlLaysC2.n5 Tryz.prog Tryz.cmpL_ren := {
  mixed := by kernel_rfl
  f5 := ⟨Tryz.f107.name, by decide, Tryz.func107.trans (congrArg some (by kernel_rfl))⟩
  f7 := ⟨Tryz.f134.name, by decide, Tryz.func134.trans (congrArg some (by kernel_rfl))⟩
  t3 := Tryz.underlying3
  a3 := Tryz.isAgg3
  z3 := Tryz.sizeOf3
  v3 := Tryz.zeroValue3
  t4 := Tryz.underlying4
  a4 := Tryz.isAgg4
  z4 := Tryz.sizeOf4
  v4 := Tryz.zeroValue4
  t22 := Tryz.underlying3
  a22 := Tryz.isAgg3
  z22 := Tryz.sizeOf3
  v22 := Tryz.zeroValue3 }
end Go.Proofs.YthaklmdhkkfigaaGreat
namespace Go.Proofs.YthaklmdhkkfigaaGreat
open Go.Shelf Go.RowKit Go.Lib Go.Sort
set_option linter.unusedVariables false
attribute [local go_sem ↓] Go.wp_at_zero Go.wp_at_succ

/-- How two objects are compared: the greater Prio comes first. -/
def cfP (p : Nat → Int) (x y : Nat) : Int := Lib.compareInt (p y) (p x)
theorem ltP (p : Nat → Int) (x y : Nat) : ltOf (cfP p) x y = decide (p y < p x) := by
  unfold ltOf cfP Lib.compareInt
  by_cases h1 : p y < p x
  · simp [h1]
  · by_cases h2 : p x < p y <;> simp [h1, h2]
theorem swoP (p : Nat → Int) : SWO (ltOf (cfP p)) where
  irrefl x := by rw [ltP]; simp
  trans x y z h1 h2 := by rw [ltP] at *; simp at *; omega
  ntrans x y z h1 h2 := by rw [ltP] at *; simp at *; omega
set_option maxHeartbeats 1600000 in
theorem closure_any (a b : Nat) (pa pb : Int) (W : World) (ha : W.cell? ⟨a, 1, none⟩ = some (.int .i64 pa)) (hb : W.cell? ⟨b, 1, none⟩ = some (.int .i64 pb)) :
    Calls Tryz.prog 106 #[.pointer (some ⟨a, 0, none⟩), .pointer (some ⟨b, 0, none⟩)] W fun e w' => e = .returned (.int .i64 (Lib.compareInt pb pa)) ∧ ∃ q, w' = W.drewN q := by
  have hcon := AnyG.cmp_Compare_int Tryz.cmpL pb pa W.drew
  change Calls Tryz.prog 107 _ _ _ at hcon
  generalize Lib.compareInt pb pa = r at hcon ⊢
  have HC := hid hcon
  clear hcon
  go_enter Tryz.func106, Tryz.ntmps106
  go_wp2_with fail
  go_region_held3 (fun X => X.cell? ⟨a, 1, none⟩ = some (.int .i64 pa) ∧ X.cell? ⟨b, 1, none⟩ = some (.int .i64 pb)) (first | (with_reducible exact SX.out) | go_keep)
    (first | (go_at_call 107; with_reducible refine HC.out.mono ?_; rintro e w1 ⟨rfl, hw1⟩; obtain rfl := hw1.symm; have SX : Hid (W.drew.cell? ⟨a, 1, none⟩ = some (.int .i64 pa) ∧ W.drew.cell? ⟨b, 1, none⟩ = some (.int .i64 pb)) := hid ⟨by simpa using ha, by simpa using hb⟩))
  all_goals
    go_wp2
    go_ret
    exact ⟨rfl, 1, rfl⟩
end Go.Proofs.YthaklmdhkkfigaaGreat
namespace Go.Proofs.YthaklmdhkkfigaaGreat
open Go.Shelf Go.RowKit Go.Lib Go.Sort
set_option linter.unusedVariables false

theorem tn_sort {α : Type} [Inhabited α] (enc : α → Value) (w : World) (blk off n : Nat) (d : Array α) (os : Array Obj) : Tn (· = blk) w (sortWorld enc w blk off n d os) := by
  refine ⟨rfl, rfl, rfl, ?_, fun i hi hs => ?_⟩
  · unfold sortWorld grow putRow mapBlock Sort.ahead
    simp
  · unfold sortWorld
    have hz : i < (putRow enc (Sort.ahead w n) blk off d).heap.size := by unfold putRow mapBlock Sort.ahead; simpa using hi
    have h1 : (grow (putRow enc (Sort.ahead w n) blk off d) os).heap[i]? = (putRow enc (Sort.ahead w n) blk off d).heap[i]? := by
      show ((putRow enc (Sort.ahead w n) blk off d).heap ++ os)[i]? = _
      exact Array.getElem?_append_left hz
    rw [h1]
    unfold putRow mapBlock Sort.ahead
    have : ¬ blk = i := fun e => hs e.symm
    simp [Array.getElem?_modify, this]
abbrev encA (a : Nat → Nat) (i : Nat) : Value := .pointer (some ⟨a i, 0, none⟩)
theorem cmp_lays (a : Nat → Nat) (p : Nat → Int) (blk off size : Nat) (w : World) (h : ∀ i, w.cell? ⟨a i, 1, none⟩ = some (.int .i64 (p i)) ∧ ¬ a i = blk) : CmpLays1 Tryz.prog 106 #[] (encA a) (cfP p) blk off size w := by
  intro m os dk hs x y
  have T := tn_sort (encA a) w blk off m dk os
  have c : ∀ i, (sortWorld (encA a) w blk off m dk os).cell? ⟨a i, 1, none⟩ = some (.int .i64 (p i)) := fun i => (cell_same (T.block (a i) (World.block_lt_of_cell? w _ (h i).1) (h i).2) 1).trans (h i).1
  refine (closure_any (a x) (a y) (p x) (p y) _ (c x) (c y)).mono ?_
  rintro e w' ⟨he, q, hq⟩
  exact ⟨he, q, #[], by rw [hq, grow_empty]⟩
theorem sort_any (a : Nat → Nat) (p : Nat → Int) (blk off cap : Nat) (d : Array Nat) (w : World) (h : ∀ i, w.cell? ⟨a i, 1, none⟩ = some (.int .i64 (p i)) ∧ ¬ a i = blk) (hH : Holds (encA a) w blk off d) (hblk : blk < w.heap.size) (hsz : d.size < 4611686018427387904) :
    Calls Tryz.prog 105 #[.slice (some ⟨blk, off, none⟩) d.size cap, .func (.func 106) #[] #[]] w fun e w' =>
      e = .returned (.tuple #[]) ∧ ∃ d' n os, PermIn 0 d.size d d' ∧ SortedIn (ltOf (cfP p)) 0 d.size d' ∧ w' = sortWorld (encA a) w blk off n d' os := by
  have eg : ∀ args w, (callFunc 106 args).run Tryz.prog w = .ok (.enter 106 args) w := enters_of Tryz.func106 (by kernel_rfl) rfl
  have hS := Any.slices_SortFunc Tryz.sortL (encA a) (fun _ => rfl) (cfP p) (swoP p) 106 #[] blk off cap d w eg (cmp_lays a p blk off d.size w h) hH hblk hsz
  exact hS
end Go.Proofs.YthaklmdhkkfigaaGreat
namespace Go.Proofs.YthaklmdhkkfigaaGreat
open Go.RowKit Go.Sort
set_option linter.unusedVariables false
attribute [local go_sem ↓] Go.wp_at_zero Go.wp_at_succ

theorem Tryz.infoPA : (Tryz.prog.info? 146).map (fun i => (i.zero, i.size, i.bytes)) = some (some (.pointer none), 1, 8) := by kernel_rfl
/-- The actors' row: pointers, of the call's own. -/
abbrev ActRow (w : World) (B : Nat) (v : Value) (al : List Nat) : Prop := w.ownsRow B 146 1 v al.length (al.map (fun a => Value.pointer (some ⟨a, 0, none⟩)))
theorem one_ptr (al : List Nat) : ∀ u ∈ al.map (fun a => Value.pointer (some ⟨a, 0, none⟩)), u.oneCell' = true := by intro u hu; simp at hu; obtain ⟨z, _, rfl⟩ := hu; rfl
theorem news_row {w w' : World} {B g n c : Nat} {e : TypeId} {xs : List Value} (h : w.ownsRow B e 1 (.slice (some ⟨g, 0, none⟩) n c) n xs) (hb : Below w.heap.size w w') : ∀ j u, xs[j]? = some u → w'.cell? ((⟨g, 0, none⟩ : Addr).add j) = some u := by
  intro j u hj
  exact World.ownsRow.cells (g := g) (ownsRow_below h hb) rfl j u hj
theorem act_eq (g n c : Nat) (w : World) : (binOp BinOp.eql 80 (.slice (some ⟨g, 0, none⟩) n c) (.slice none 0 0)).run Tryz.prog w = .ok (.bool false) w := by kernel_rfl
set_option maxRecDepth 100000 in
set_option maxHeartbeats 800000 in
theorem clone_any (B g c : Nat) (al : List Nat) (w : World) (hn : al.length ≤ 1048576) (h : ActRow w B (.slice (some ⟨g, 0, none⟩) al.length c) al) :
    Calls Tryz.prog 104 #[.slice (some ⟨g, 0, none⟩) al.length c] w fun e w' => ∃ v, e = .returned v ∧ ActRow w' w.heap.size v al ∧ Below w.heap.size w w' := by
  obtain ⟨i0, hi0, hz0, hz1, hz2⟩ := info_parts Tryz.infoPA
  have HH := hid h
  obtain ⟨n, hnn⟩ : ∃ n, n = al.length := ⟨_, rfl⟩
  have HN := hid hnn
  have NW := hid (news_row h (below1 w (.cells #[] 146)))
  rw [← hnn] at hn ⊢
  have LN : Hid ((al.map (fun a => Value.pointer (some ⟨a, 0, none⟩))).length = n * 1) := hid (by simp [hnn])
  clear h hnn
  have heq := act_eq g n c w
  go_enter Tryz.func104, Tryz.ntmps104
  go_wp2_with (at_builtin; refine wpList_append_own _ rfl (.tmp 5) (.tmp 6) 80 rfl w.heap.size 146 i0 (.pointer none) 1 8 Tryz.underlying80 hi0 hz0 hz1 hz2 rfl (by decide) (.slice (some ⟨w.heap.size, 0, none⟩) 0 0) 0 [] rfl (World.ownsRow_lit w #[] 0 (Nat.le_refl _) (by decide) rfl) ⟨g, 0, none⟩ n c (al.map (fun a => Value.pointer (some ⟨a, 0, none⟩))) rfl LN.out NW.out (one_ptr al) (by unfold maxLen; omega) (by omega) (by simp) ?_; intro v1 w1 hown hgrow _; have O1 : Hid (ActRow w1 w.heap.size v1 al) := hid (by have := hown; rw [HN.out] at this; simpa using this); have B1 := hid ((below1 w (.cells #[] 146)).grown hgrow (by simp) (fun j hj => Nat.le_of_eq (by simpa [Value.ownBlock] using hj))); clear hown hgrow)
  go_ret
  exact ⟨_, rfl, O1.out, B1.out⟩
end Go.Proofs.YthaklmdhkkfigaaGreat
namespace Go.Proofs.YthaklmdhkkfigaaGreat
open Go.RowKit Go.Sort
set_option linter.unusedVariables false
attribute [local go_sem ↓] Go.wp_at_zero Go.wp_at_succ

set_option maxHeartbeats 800000 in
theorem eqRec_same (k a b : Int) (w : World) :
    Calls Tryz.prog 46 #[.agg #[.int .i64 k, .int .i64 a, .int .i64 b], .agg #[.int .i64 k, .int .i64 a, .int .i64 b]] w fun e w' => e = .returned (.bool true) ∧ Below w.heap.size w w' := by
  go_enter Tryz.func46, Tryz.ntmps46
  go_wp2
  go_ret
  exact ⟨rfl, below2 _ _ _⟩
set_option maxHeartbeats 800000 in
theorem eqRecS_same (ao bo : Option Addr) (n c d : Nat) (es : List (Int × Int × Int)) (w : World) (hn : n ≤ 1048576) (hx : RecsOf w ao n es) (hy : RecsOf w bo n es) :
    Calls Tryz.prog 13 #[.slice ao n c, .slice bo n d] w fun e w' => e = .returned (.bool true) ∧ Below w.heap.size w w' := by
  have HX := hid hx
  have HY := hid hy
  clear hx hy
  go_enter Tryz.func13, Tryz.ntmps13
  go_wp2
  go_loopw [5] (fun i wr => ∃ k : Nat, k ≤ n ∧ i = .int .i64 k ∧ Below w.heap.size w wr) (fun i _ => n - (intOf i).toNat)
  case atStart => exact ⟨0, Nat.zero_le _, rfl, Below.refl _ _⟩
  case round =>
    obtain ⟨k, hk, rfl, hb⟩ := hrel
    have HB := hid hb
    by_cases hlt : k < n
    · obtain ⟨b, off, rfl, hbl, hc1⟩ := HX.out.2 (by omega)
      obtain ⟨b2, off2, rfl, hbl2, hc2⟩ := HY.out.2 (by omega)
      have hi : (k : Int) < (n : Int) := by omega
      obtain ⟨p1, p2, p3⟩ := hc1 k hlt
      obtain ⟨q1, q2, q3⟩ := hc2 k hlt
      have k1 := cell_regrown ((hb.cell (p := ⟨b, _, none⟩) hbl).trans p1)
      have k2 := cell_regrown ((hb.cell (p := ⟨b, _, none⟩) hbl).trans p2)
      have k3 := cell_regrown ((hb.cell (p := ⟨b, _, none⟩) hbl).trans p3)
      have l1 := cell_regrown ((hb.cell (p := ⟨b2, _, none⟩) hbl2).trans q1)
      have l2 := cell_regrown ((hb.cell (p := ⟨b2, _, none⟩) hbl2).trans q2)
      have l3 := cell_regrown ((hb.cell (p := ⟨b2, _, none⟩) hbl2).trans q3)
      obtain ⟨x, hx⟩ : ∃ x, x = es.getD k (0, 0, 0) := ⟨_, rfl⟩
      rw [← hx] at k1 k2 k3 l1 l2 l3
      have c47 : ∀ d os, Calls Tryz.prog 46 #[.agg #[.int .i64 x.1, .int .i64 x.2.1, .int .i64 x.2.2], .agg #[.int .i64 x.1, .int .i64 x.2.1, .int .i64 x.2.2]] (grow (redrawn wr d) os) fun e w'' => e = .returned (.bool true) ∧ ∃ p : Regrown, w'' = grow (redrawn wr p.d) p.os :=
        fun d os => Calls.regrown_of (eqRec_same x.1 x.2.1 x.2.2 _)
      obtain ⟨x1, x2, x3⟩ := x
      simp only at k1 k2 k3 l1 l2 l3 c47
      clear hc1 hc2 p1 p2 p3 q1 q2 q3 hx hb
      go_wp2
      refine wp_region_quiet_below (by kernel_rfl) (by kernel_rfl) ?_
      repeat (any_goals (first | go_big_quiet_step (first | exact c47 _ _) | quiet_step (first | exact c47 _ _)))
      refine wpQuiet_nil ?_
      intro _ hw'
      obtain ⟨⟨dq, osq⟩, hw''⟩ := hw'
      subst hw''
      go_wp2
      go_roundw
      case rel => exact ⟨k + 1, by omega, by go_num, HB.out.trans ((below_regrown wr dq osq).mono HB.out.size)⟩
      case measure => simp [intOf]; omega
    · have e : k = n := by omega
      subst e
      clear hb
      go_wp2
      go_ret
      exact ⟨rfl, HB.out⟩

end Go.Proofs.YthaklmdhkkfigaaGreat

import Derived.Test.YtbcjlpjohknljaaGreatDoorPa
import Derived.Test.YtbcjlpjohknljaaGreatDoorOa
import Derived.BigQuiet
namespace Go.Proofs.YtbcjlpjohknljaaGreatDoor
open Go.RowKit Go.Sort
set_option linter.unusedVariables false

/-- A system as far as a text gives it. -/
structure SyD where
  sigs : Int
  obs : List ObD
  tms : List (Int × Int)
def sy0 : SyD := ⟨0, [], []⟩
def opsL : List (List UInt8) := [opName 4, opName 5, opName 6, opName 7, opName 8, opName 9, opName 10, opName 11, opName 12, opName 13, opName 14, opName 15, opName 16, opName 17, opName 18]
def kindsL : List (List UInt8) := [kindName 1, kindName 2, kindName 3, kindName 4, kindName 5, kindName 6, kindName 7]
def stmsL : List (List UInt8) := [stmName 1, stmName 2, stmName 3, stmName 4, stmName 5, stmName 6, stmName 7, stmName 8, stmName 9]
def wArg : List UInt8 := [97, 114, 103]
/-- The item that a field is. -/
def itemW (f : List UInt8) : Option (Int × Int) :=
  if 0 ≤ placeN opsL f 0 then some (4 + placeN opsL f 0, 0)
  else if 0 ≤ placeN kindsL f 0 then some (19, 1 + placeN kindsL f 0)
  else if f = wArg then some (3, 0)
  else if 1 < f.length ∧ f.getD 0 0 = 118 ∧ ¬ f.getD 1 0 = 45 then (num? f.tail).map (fun n => (2, n))
  else (num? f).map (fun n => (1, n))
def codeW : List (List UInt8) → Option (List (Int × Int))
  | [] => some []
  | f :: r => match itemW f, codeW r with
    | some x, some y => some (x :: y)
    | _, _ => none
theorem codeW_snoc (f : List UInt8) (x : Int × Int) (hx : itemW f = some x) : ∀ {fs : List (List UInt8)} {c : List (Int × Int)}, codeW fs = some c → codeW (fs ++ [f]) = some (c ++ [x])
  | [], c, h => by
    simp only [codeW, Option.some.injEq] at h
    subst h
    simp [codeW, hx]
  | g :: r, c, h => by
    unfold codeW at h
    cases hg : itemW g with
    | none => rw [hg] at h; simp at h
    | some y =>
      cases hr : codeW r with
      | none => rw [hg, hr] at h; simp at h
      | some z =>
        rw [hg, hr] at h
        simp only [Option.some.injEq] at h
        subst h
        rw [List.cons_append, codeW, hg, codeW_snoc f x hx hr]
        rfl
theorem codeW_no (f : List UInt8) (hf : itemW f = none) (r : List (List UInt8)) : ∀ fs : List (List UInt8), codeW (fs ++ f :: r) = none
  | [] => by simp [codeW, hf]
  | g :: s => by
    rw [List.cons_append, codeW, codeW_no f hf r s]
    cases itemW g <;> rfl
theorem codeW_len : ∀ {fs : List (List UInt8)} {c : List (Int × Int)}, codeW fs = some c → c.length = fs.length
  | [], c, h => by
    simp only [codeW, Option.some.injEq] at h
    subst h; rfl
  | g :: r, c, h => by
    unfold codeW at h
    cases hg : itemW g with
    | none => rw [hg] at h; simp at h
    | some y =>
      cases hr : codeW r with
      | none => rw [hg, hr] at h; simp at h
      | some z =>
        rw [hg, hr] at h
        simp only [Option.some.injEq] at h
        subst h
        simp [codeW_len hr]
/-- The statement that the fields behind a keyword are. -/
def stmW (fs : List (List UInt8)) : Option StmD :=
  match fs with
  | [] => none
  | f :: r =>
    if placeN stmsL f 0 < 0 then none else
    match numsN r (formT (1 + placeN stmsL f 0)).length with
    | none => none
    | some ns =>
      if formC (1 + placeN stmsL f 0) = true then
        (codeW (r.drop (formT (1 + placeN stmsL f 0)).length)).map (fun c => ⟨1 + placeN stmsL f 0, if giveA (1 + placeN stmsL f 0) then ns.getD 0 0 else 0, if giveB (1 + placeN stmsL f 0) then ns.getD (if giveA (1 + placeN stmsL f 0) then 1 else 0) 0 else 0, c⟩)
      else if r.length = (formT (1 + placeN stmsL f 0)).length then
        some ⟨1 + placeN stmsL f 0, if giveA (1 + placeN stmsL f 0) then ns.getD 0 0 else 0, if giveB (1 + placeN stmsL f 0) then ns.getD (if giveA (1 + placeN stmsL f 0) then 1 else 0) 0 else 0, []⟩
      else none
/-- The last of a list is turned. -/
def turnL {α : Type} (l : List α) (f : α → α) : List α := match l.reverse with
  | [] => []
  | x :: r => r.reverse ++ [f x]
theorem turnL_snoc {α : Type} (l : List α) (x : α) (f : α → α) : turnL (l ++ [x]) f = l ++ [f x] := by simp [turnL]
theorem turnL_len {α : Type} (l : List α) (f : α → α) : (turnL l f).length = l.length := by
  rcases List.eq_nil_or_concat l with rfl | ⟨r, x, rfl⟩
  · rfl
  · rw [List.concat_eq_append, turnL_snoc]; simp
def kSig : List UInt8 := [115, 105, 103, 110, 97, 108, 115]
def kObj : List UInt8 := [111, 98, 106, 101, 99, 116]
def kVar : List UInt8 := [118, 97, 114]
def kSub : List UInt8 := [115, 117, 98]
def kSta : List UInt8 := [115, 116, 97, 116, 101]
def kEnt : List UInt8 := [101, 110, 116, 114, 121]
def kExi : List UInt8 := [101, 120, 105, 116]
def kOn : List UInt8 := [111, 110]
def kDo : List UInt8 := [100, 111]
def kTim : List UInt8 := [116, 105, 109, 101, 114]
def oneOb (s : SyD) (f : ObD → ObD) : Option SyD := if s.obs = [] then none else some { s with obs := turnL s.obs f }
def lastOb (s : SyD) : ObD := s.obs.getLastD ob0
/-- A system with one line more. -/
def lineW (s : SyD) (key : List UInt8) (r : List (List UInt8)) (begun : Bool) : Option SyD :=
  if key = kSig then (match nums r with | some [n] => if begun then none else some { s with sigs := n } | _ => none)
  else if begun = false then none
  else if key = kObj then (match nums r with | some [p, q, d] => some { s with obs := s.obs ++ [⟨p, q, d, [], [], [], [], []⟩] } | _ => none)
  else if key = kTim then (match nums r with | some [o, g] => some { s with tms := s.tms ++ [(o, g)] } | _ => none)
  else if key = kVar then (match r with
    | [k, v] => if placeN kindsL k 0 < 0 then none else match num? v with
      | some n => oneOb s (fun o => { o with kinds := o.kinds ++ [1 + placeN kindsL k 0], vals := o.vals ++ [n] })
      | none => none
    | _ => none)
  else if key = kSub then (match nums r with | some [n] => oneOb s (fun o => { o with subs := o.subs ++ [n] }) | _ => none)
  else if key = kSta then (match nums r with | some [p, i] => oneOb s (fun o => { o with sts := o.sts ++ [⟨p, i, [], []⟩] }) | _ => none)
  else if key = kOn then (match numsN r 3, codeW (r.drop 3) with
    | some [f, g, t], some c => oneOb s (fun o => { o with trs := o.trs ++ [⟨f, g, c, t, []⟩] })
    | _, _ => none)
  else if key = kEnt then (match stmW r with
    | some x => if (lastOb s).sts = [] then none else oneOb s (fun o => { o with sts := turnL o.sts (fun t => { t with entry := t.entry ++ [x] }) })
    | none => none)
  else if key = kExi then (match stmW r with
    | some x => if (lastOb s).sts = [] then none else oneOb s (fun o => { o with sts := turnL o.sts (fun t => { t with exit := t.exit ++ [x] }) })
    | none => none)
  else if key = kDo then (match stmW r with
    | some x => if (lastOb s).trs = [] then none else oneOb s (fun o => { o with trs := turnL o.trs (fun t => { t with action := t.action ++ [x] }) })
    | none => none)
  else none
/-- What a text gives, line by line. -/
def sysW : List (List UInt8) → Nat → SyD → Bool → SyD × Int
  | [], _, s, b => if b then (s, 0) else (sy0, -2)
  | l :: r, k, s, b => if skipB l = true then sysW r (k + 1) s b else
    match lineW s ((cut 32 l).getD 0 []) (cut 32 l).tail b with
    | some s' => sysW r (k + 1) s' true
    | none => (sy0, (k : Int) + 1)
def parW (t : List UInt8) : SyD × Int := if 30000 < t.length then (sy0, -1) else sysW (cut 10 t) 0 sy0 false
end Go.Proofs.YtbcjlpjohknljaaGreatDoor
namespace Go.Proofs.YtbcjlpjohknljaaGreatDoor
open Go.RowKit Go.Sort
set_option linter.unusedVariables false
attribute [local go_sem ↓] Go.wp_at_zero Go.wp_at_succ

theorem new_cellS (w : World) (cs : Array Value) (t : TypeId) (i : Nat) (v : Value) (h : cs[i]? = some v) : (w.alloc (.cells cs t)).cell? ⟨w.heap.size, 0 + i, none⟩ = some v := by
  have := heap_alloc_new w (.cells cs t)
  unfold World.cell?
  simp only []
  rw [this, Nat.zero_add]
  exact h
theorem strs_new (w : World) (fs : List (List UInt8)) : StrsOf (w.alloc (.cells (fs.map tx).toArray 9)) (some ⟨w.heap.size, 0, none⟩) fs.length fs :=
  ⟨rfl, fun _ => ⟨_, 0, rfl, by simp, fun i hi => new_cellS _ _ _ _ _ (by simp [List.getD_eq_getElem?_getD, hi])⟩⟩
theorem opsN_any (w : World) : Calls Tryz.prog 67 #[] w fun e w' => ∃ g, e = .returned (.slice (some ⟨g, 0, none⟩) 15 15) ∧ StrsOf w' (some ⟨g, 0, none⟩) 15 opsL ∧ Below w.heap.size w w' :=
  (opNames_any w).mono (by rintro e w' ⟨rfl, rfl⟩; exact ⟨_, rfl, strs_new w opsL, below1 _ _⟩)
theorem kindsN_any (w : World) : Calls Tryz.prog 22 #[] w fun e w' => ∃ g, e = .returned (.slice (some ⟨g, 0, none⟩) 7 7) ∧ StrsOf w' (some ⟨g, 0, none⟩) 7 kindsL ∧ Below w.heap.size w w' :=
  (kindNames_any w).mono (by rintro e w' ⟨rfl, rfl⟩; exact ⟨_, rfl, strs_new w kindsL, below1 _ _⟩)
theorem stmsN_any (w : World) : Calls Tryz.prog 40 #[] w fun e w' => ∃ g, e = .returned (.slice (some ⟨g, 0, none⟩) 9 9) ∧ StrsOf w' (some ⟨g, 0, none⟩) 9 stmsL ∧ Below w.heap.size w w' :=
  (stmNames_any w).mono (by rintro e w' ⟨rfl, rfl⟩; exact ⟨_, rfl, strs_new w stmsL, below1 _ _⟩)
theorem placeN_lt : ∀ (fs : List (List UInt8)) (x : List UInt8) (k : Nat), placeN fs x k < (k : Int) + fs.length
  | [], x, k => by simp [placeN]; omega
  | f :: r, x, k => by
    unfold placeN
    split
    · simp; omega
    · have := placeN_lt r x (k + 1)
      simp at this ⊢
      omega
/-- What l5Item answers. -/
def itR (l : List UInt8) (e : Ending) : Prop := ∃ o v : Int, e = .returned (.tuple #[.agg #[.int .i64 o, .int .i64 v], .bool (itemW l).isSome]) ∧ ∀ x, itemW l = some x → (o, v) = x
theorem itR_yes {l : List UInt8} {o v : Int} (h : itemW l = some (o, v)) : itR l (.returned (.tuple #[.agg #[.int .i64 o, .int .i64 v], .bool true])) := ⟨o, v, by rw [h]; rfl, fun x hx => by rw [h] at hx; injection hx⟩
theorem itR_opt {l : List UInt8} {o n : Int} {q : Option Int} (h : itemW l = q.map (fun n => (o, n))) (hn : ∀ v, q = some v → n = v) : itR l (.returned (.tuple #[.agg #[.int .i64 o, .int .i64 n], .bool q.isSome])) :=
  ⟨o, n, by rw [h, Option.isSome_map], fun x hx => by
    rw [h] at hx
    cases q with
    | none => cases hx
    | some v => simp at hx; rw [hn v rfl, hx]⟩
theorem bl_tail (s : ByteArray) (h : 1 ≤ s.size) : bl (s.extract 1 s.size) = (bl s).tail := by
  rw [ext_is s 1 s.size (Nat.le_refl _)]
  have hl := bl_len s
  show ((((bl s).drop 1).take (s.size - 1)).toArray).toList = _
  rw [List.take_of_length_le (by rw [List.length_drop, hl]; exact Nat.le_refl _)]
  simp
end Go.Proofs.YtbcjlpjohknljaaGreatDoor
namespace Go.Proofs.YtbcjlpjohknljaaGreatDoor
open Go.RowKit Go.Sort
set_option linter.unusedVariables false
attribute [local go_sem ↓] Go.wp_at_zero Go.wp_at_succ

theorem frozS {w : World} {H : Nat} {cs : Array Value} {t : TypeId} (k : w.heap[H]? = some (.cells cs t (0, 0))) (o : Nat) : w.frozen? ⟨H, o, none⟩ = false := by simp [World.frozen?, k]
theorem set2 {w : World} {H : Nat} {a b : Value} {t : TypeId} (k : w.heap[H]? = some (.cells #[a, b] t (0, 0))) (v0 v1 : Value) : ((w.setCell ⟨H, 0, none⟩ v0).setCell ⟨H, 1, none⟩ v1).heap[H]? = some (.cells #[v0, v1] t (0, 0)) := by
  have h0 := heap_setCell_same w H 0 _ _ v0 k
  have h1 := heap_setCell_same _ H 1 _ _ v1 h0
  simpa using h1
theorem below_set2 {B H : Nat} {w w2 : World} (h : Below B w w2) (hB : B ≤ H) (v0 v1 : Value) : Below B w ((w2.setCell ⟨H, 0, none⟩ v0).setCell ⟨H, 1, none⟩ v1) := (h.setCell (p := ⟨H, 0, none⟩) hB v0).setCell (p := ⟨H, 1, none⟩) hB v1
set_option maxRecDepth 100000 in
set_option maxHeartbeats 3200000 in
theorem l5Item_any (s : ByteArray) (w : World) (hs : s.size ≤ 1048576) :
    Calls Tryz.prog 39 #[.string s] w fun e w' => itR (bl s) e ∧ Below w.heap.size w w' := by
  have OP := hid (fun W => opsN_any W)
  have KN := hid (fun W => kindsN_any W)
  have PO := hid (fun W g (h : StrsOf W (some ⟨g, 0, none⟩) 15 opsL) => l5Place_any (some ⟨g, 0, none⟩) 15 15 opsL s W (by omega) h)
  have PK := hid (fun W g (h : StrsOf W (some ⟨g, 0, none⟩) 7 kindsL) => l5Place_any (some ⟨g, 0, none⟩) 7 7 kindsL s W (by omega) h)
  have P1 := placeN_lt opsL (bl s) 0
  have Q1 := placeN_lt kindsL (bl s) 0
  have IW : Hid (itemW (bl s) = if 0 ≤ placeN opsL (bl s) 0 then some (4 + placeN opsL (bl s) 0, 0) else if 0 ≤ placeN kindsL (bl s) 0 then some (19, 1 + placeN kindsL (bl s) 0) else if bl s = wArg then some (3, 0) else if 1 < (bl s).length ∧ (bl s).getD 0 0 = 118 ∧ ¬ (bl s).getD 1 0 = 45 then (num? (bl s).tail).map (fun n => (2, n)) else (num? (bl s)).map (fun n => (1, n))) := hid rfl
  obtain ⟨p, hp⟩ : ∃ p, p = placeN opsL (bl s) 0 := ⟨_, rfl⟩
  obtain ⟨q, hq⟩ : ∃ q, q = placeN kindsL (bl s) 0 := ⟨_, rfl⟩
  rw [← hp] at PO P1 IW
  rw [← hq] at PK Q1 IW
  have p14 : p ≤ 14 := by simp [opsL] at P1; omega
  have q6 : q ≤ 6 := by simp [kindsL] at Q1; omega
  have BB := hid (below1 w (.cells #[.int .i64 0, .int .i64 0] 96))
  have RB := hid (heap_alloc_new w (.cells #[.int .i64 0, .int .i64 0] 96))
  clear hp hq P1 Q1
  by_cases h1 : 0 ≤ p
  · rw [if_pos h1] at IW
    go_enter Tryz.func39, Tryz.ntmps39
    go_wp2_with (first
      | (go_at_call 67; refine (OP.out _).mono ?_; rintro e w1 ⟨g1, rfl, hs1, hb1⟩; have S1 := hid hs1; have BB := hid (BB.out.trans (hb1.mono BB.out.size)); have RB := hid (block_below RB.out hb1); obtain ⟨z0, z1⟩ := two_cells RB.out; have zl := lt_of_block RB.out; have f0 := frozS RB.out 0; have f1 := frozS RB.out 1; clear hs1 hb1)
      | (go_at_call 22; refine (KN.out _).mono ?_; rintro e w2 ⟨g2, rfl, hs1, hb1⟩; have S2 := hid hs1; have BB := hid (BB.out.trans (hb1.mono BB.out.size)); have RB := hid (block_below RB.out hb1); obtain ⟨z0, z1⟩ := two_cells RB.out; have zl := lt_of_block RB.out; have f0 := frozS RB.out 0; have f1 := frozS RB.out 1; clear hs1 hb1)
      | (go_at_call 21; first | (with_reducible refine (PO.out _ _ S1.out).mono ?_; rintro e w3 ⟨rfl, hw3⟩; obtain rfl := hw3.symm) | (with_reducible refine (PK.out _ _ S2.out).mono ?_; rintro e w3 ⟨rfl, hw3⟩; obtain rfl := hw3.symm))
      | (go_at_call 23; refine (NU.out _).mono ?_; rintro e w4 ⟨⟨n, rfl, hn⟩, hb1⟩; have HN := hid hn; have BB := hid (BB.out.trans (hb1.mono BB.out.size)); have RB := hid (block_below RB.out hb1); obtain ⟨z0, z1⟩ := two_cells RB.out; have zl := lt_of_block RB.out; have f0 := frozS RB.out 0; have f1 := frozS RB.out 1; clear hn hb1))
    obtain ⟨u0, u1⟩ := two_cells (set2 RB.out (.int .i64 (4 + p)) (.int .i64 0))
    exact bodyPost_ret (v := .tuple #[.agg #[.int .i64 (4 + p), .int .i64 0], .bool true]) (by simp [results, Tryz.results39, go_sem, u0, u1]) rfl ⟨itR_yes IW.out, below_set2 BB.out (Nat.le_refl _) _ _⟩
  · rw [if_neg h1] at IW
    by_cases h2 : 0 ≤ q
    · rw [if_pos h2] at IW
      go_enter Tryz.func39, Tryz.ntmps39
      go_wp2_with (first
      | (go_at_call 67; refine (OP.out _).mono ?_; rintro e w1 ⟨g1, rfl, hs1, hb1⟩; have S1 := hid hs1; have BB := hid (BB.out.trans (hb1.mono BB.out.size)); have RB := hid (block_below RB.out hb1); obtain ⟨z0, z1⟩ := two_cells RB.out; have zl := lt_of_block RB.out; have f0 := frozS RB.out 0; have f1 := frozS RB.out 1; clear hs1 hb1)
      | (go_at_call 22; refine (KN.out _).mono ?_; rintro e w2 ⟨g2, rfl, hs1, hb1⟩; have S2 := hid hs1; have BB := hid (BB.out.trans (hb1.mono BB.out.size)); have RB := hid (block_below RB.out hb1); obtain ⟨z0, z1⟩ := two_cells RB.out; have zl := lt_of_block RB.out; have f0 := frozS RB.out 0; have f1 := frozS RB.out 1; clear hs1 hb1)
      | (go_at_call 21; first | (with_reducible refine (PO.out _ _ S1.out).mono ?_; rintro e w3 ⟨rfl, hw3⟩; obtain rfl := hw3.symm) | (with_reducible refine (PK.out _ _ S2.out).mono ?_; rintro e w3 ⟨rfl, hw3⟩; obtain rfl := hw3.symm))
      | (go_at_call 23; refine (NU.out _).mono ?_; rintro e w4 ⟨⟨n, rfl, hn⟩, hb1⟩; have HN := hid hn; have BB := hid (BB.out.trans (hb1.mono BB.out.size)); have RB := hid (block_below RB.out hb1); obtain ⟨z0, z1⟩ := two_cells RB.out; have zl := lt_of_block RB.out; have f0 := frozS RB.out 0; have f1 := frozS RB.out 1; clear hn hb1))
      obtain ⟨u0, u1⟩ := two_cells (set2 RB.out (.int .i64 19) (.int .i64 (1 + q)))
      exact bodyPost_ret (v := .tuple #[.agg #[.int .i64 19, .int .i64 (1 + q)], .bool true]) (by simp [results, Tryz.results39, go_sem, u0, u1]) rfl ⟨itR_yes IW.out, below_set2 BB.out (Nat.le_refl _) _ _⟩
    · rw [if_neg h2] at IW
      by_cases h3 : bl s = wArg
      · rw [if_pos h3] at IW
        have h3s : s = ⟨#[97, 114, 103]⟩ := (ba_bl.2 h3.symm).symm
        subst h3s
        clear h3 hs
        go_enter Tryz.func39, Tryz.ntmps39
        go_wp2_with (first
      | (go_at_call 67; refine (OP.out _).mono ?_; rintro e w1 ⟨g1, rfl, hs1, hb1⟩; have S1 := hid hs1; have BB := hid (BB.out.trans (hb1.mono BB.out.size)); have RB := hid (block_below RB.out hb1); obtain ⟨z0, z1⟩ := two_cells RB.out; have zl := lt_of_block RB.out; have f0 := frozS RB.out 0; have f1 := frozS RB.out 1; clear hs1 hb1)
      | (go_at_call 22; refine (KN.out _).mono ?_; rintro e w2 ⟨g2, rfl, hs1, hb1⟩; have S2 := hid hs1; have BB := hid (BB.out.trans (hb1.mono BB.out.size)); have RB := hid (block_below RB.out hb1); obtain ⟨z0, z1⟩ := two_cells RB.out; have zl := lt_of_block RB.out; have f0 := frozS RB.out 0; have f1 := frozS RB.out 1; clear hs1 hb1)
      | (go_at_call 21; first | (with_reducible refine (PO.out _ _ S1.out).mono ?_; rintro e w3 ⟨rfl, hw3⟩; obtain rfl := hw3.symm) | (with_reducible refine (PK.out _ _ S2.out).mono ?_; rintro e w3 ⟨rfl, hw3⟩; obtain rfl := hw3.symm))
      | (go_at_call 23; refine (NU.out _).mono ?_; rintro e w4 ⟨⟨n, rfl, hn⟩, hb1⟩; have HN := hid hn; have BB := hid (BB.out.trans (hb1.mono BB.out.size)); have RB := hid (block_below RB.out hb1); obtain ⟨z0, z1⟩ := two_cells RB.out; have zl := lt_of_block RB.out; have f0 := frozS RB.out 0; have f1 := frozS RB.out 1; clear hn hb1))
        obtain ⟨u0, u1⟩ := two_cells (set2 RB.out (.int .i64 3) (.int .i64 0))
        exact bodyPost_ret (v := .tuple #[.agg #[.int .i64 3, .int .i64 0], .bool true]) (by simp [results, Tryz.results39, go_sem, u0, u1]) rfl ⟨itR_yes IW.out, below_set2 BB.out (Nat.le_refl _) _ _⟩
      · rw [if_neg h3] at IW
        have h3' : (s.toList == [97, 114, 103]) = false := by
          rw [beq_eq_false_iff_ne, ne_eq, ByteArray.toList_eq]
          exact h3
        clear h3
        by_cases h4 : 1 < s.size
        · have h4' : (1 : Int) < (s.size : Int) := by omega
          have h40 : (0 : Int) < (s.size : Int) := by omega
          have g0 := bl_get s 0 (by omega)
          have g1 := bl_get s 1 h4
          by_cases h5 : s[0] = 118
          · have h5' : (s[0].toNat : Int) = 118 := by rw [h5]; rfl
            by_cases h6 : s[1] = 45
            · have h6' : (s[1].toNat : Int) = 45 := by rw [h6]; rfl
              rw [if_neg (fun c => c.2.2 (by rw [g1]; exact h6))] at IW
              have NU := hid (fun W => l5Number_any s W hs)
              clear h5 h6 g0 g1
              go_enter Tryz.func39, Tryz.ntmps39
              go_wp2_with (first
      | (go_at_call 67; refine (OP.out _).mono ?_; rintro e w1 ⟨g1, rfl, hs1, hb1⟩; have S1 := hid hs1; have BB := hid (BB.out.trans (hb1.mono BB.out.size)); have RB := hid (block_below RB.out hb1); obtain ⟨z0, z1⟩ := two_cells RB.out; have zl := lt_of_block RB.out; have f0 := frozS RB.out 0; have f1 := frozS RB.out 1; clear hs1 hb1)
      | (go_at_call 22; refine (KN.out _).mono ?_; rintro e w2 ⟨g2, rfl, hs1, hb1⟩; have S2 := hid hs1; have BB := hid (BB.out.trans (hb1.mono BB.out.size)); have RB := hid (block_below RB.out hb1); obtain ⟨z0, z1⟩ := two_cells RB.out; have zl := lt_of_block RB.out; have f0 := frozS RB.out 0; have f1 := frozS RB.out 1; clear hs1 hb1)
      | (go_at_call 21; first | (with_reducible refine (PO.out _ _ S1.out).mono ?_; rintro e w3 ⟨rfl, hw3⟩; obtain rfl := hw3.symm) | (with_reducible refine (PK.out _ _ S2.out).mono ?_; rintro e w3 ⟨rfl, hw3⟩; obtain rfl := hw3.symm))
      | (go_at_call 23; refine (NU.out _).mono ?_; rintro e w4 ⟨⟨n, rfl, hn⟩, hb1⟩; have HN := hid hn; have BB := hid (BB.out.trans (hb1.mono BB.out.size)); have RB := hid (block_below RB.out hb1); obtain ⟨z0, z1⟩ := two_cells RB.out; have zl := lt_of_block RB.out; have f0 := frozS RB.out 0; have f1 := frozS RB.out 1; clear hn hb1))
              obtain ⟨u0, u1⟩ := two_cells (set2 RB.out (.int .i64 1) (.int .i64 n))
              exact bodyPost_ret (v := .tuple #[.agg #[.int .i64 1, .int .i64 n], .bool (num? (bl s)).isSome]) (by simp [results, Tryz.results39, go_sem, u0, u1]) rfl ⟨itR_opt IW.out HN.out, below_set2 BB.out (Nat.le_refl _) _ _⟩
            · have h6' : ((s[1].toNat : Int) == 45) = false := by simp; intro h; exact h6 (UInt8.toNat_inj.1 (by have : (45 : UInt8).toNat = 45 := rfl; omega))
              rw [if_pos ⟨by rw [bl_len]; exact h4, by rw [g0]; exact h5, by rw [g1]; exact h6⟩, ← bl_tail s (by omega)] at IW
              have NU := hid (fun W => l5Number_any (s.extract 1 s.size) W (by rw [ByteArray.size_extract]; omega))
              clear h5 h6 g0 g1
              go_enter Tryz.func39, Tryz.ntmps39
              go_wp2_with (first
      | (go_at_call 67; refine (OP.out _).mono ?_; rintro e w1 ⟨g1, rfl, hs1, hb1⟩; have S1 := hid hs1; have BB := hid (BB.out.trans (hb1.mono BB.out.size)); have RB := hid (block_below RB.out hb1); obtain ⟨z0, z1⟩ := two_cells RB.out; have zl := lt_of_block RB.out; have f0 := frozS RB.out 0; have f1 := frozS RB.out 1; clear hs1 hb1)
      | (go_at_call 22; refine (KN.out _).mono ?_; rintro e w2 ⟨g2, rfl, hs1, hb1⟩; have S2 := hid hs1; have BB := hid (BB.out.trans (hb1.mono BB.out.size)); have RB := hid (block_below RB.out hb1); obtain ⟨z0, z1⟩ := two_cells RB.out; have zl := lt_of_block RB.out; have f0 := frozS RB.out 0; have f1 := frozS RB.out 1; clear hs1 hb1)
      | (go_at_call 21; first | (with_reducible refine (PO.out _ _ S1.out).mono ?_; rintro e w3 ⟨rfl, hw3⟩; obtain rfl := hw3.symm) | (with_reducible refine (PK.out _ _ S2.out).mono ?_; rintro e w3 ⟨rfl, hw3⟩; obtain rfl := hw3.symm))
      | (go_at_call 23; refine (NU.out _).mono ?_; rintro e w4 ⟨⟨n, rfl, hn⟩, hb1⟩; have HN := hid hn; have BB := hid (BB.out.trans (hb1.mono BB.out.size)); have RB := hid (block_below RB.out hb1); obtain ⟨z0, z1⟩ := two_cells RB.out; have zl := lt_of_block RB.out; have f0 := frozS RB.out 0; have f1 := frozS RB.out 1; clear hn hb1))
              obtain ⟨u0, u1⟩ := two_cells (set2 RB.out (.int .i64 2) (.int .i64 n))
              exact bodyPost_ret (v := .tuple #[.agg #[.int .i64 2, .int .i64 n], .bool (num? (bl (s.extract 1 s.size))).isSome]) (by simp [results, Tryz.results39, go_sem, u0, u1]) rfl ⟨itR_opt IW.out HN.out, below_set2 BB.out (Nat.le_refl _) _ _⟩
          · have h5' : ((s[0].toNat : Int) == 118) = false := by simp; intro h; exact h5 (UInt8.toNat_inj.1 (by have : (118 : UInt8).toNat = 118 := rfl; omega))
            rw [if_neg (fun c => h5 (by rw [← g0]; exact c.2.1))] at IW
            have NU := hid (fun W => l5Number_any s W hs)
            clear h5 g0 g1
            go_enter Tryz.func39, Tryz.ntmps39
            go_wp2_with (first
      | (go_at_call 67; refine (OP.out _).mono ?_; rintro e w1 ⟨g1, rfl, hs1, hb1⟩; have S1 := hid hs1; have BB := hid (BB.out.trans (hb1.mono BB.out.size)); have RB := hid (block_below RB.out hb1); obtain ⟨z0, z1⟩ := two_cells RB.out; have zl := lt_of_block RB.out; have f0 := frozS RB.out 0; have f1 := frozS RB.out 1; clear hs1 hb1)
      | (go_at_call 22; refine (KN.out _).mono ?_; rintro e w2 ⟨g2, rfl, hs1, hb1⟩; have S2 := hid hs1; have BB := hid (BB.out.trans (hb1.mono BB.out.size)); have RB := hid (block_below RB.out hb1); obtain ⟨z0, z1⟩ := two_cells RB.out; have zl := lt_of_block RB.out; have f0 := frozS RB.out 0; have f1 := frozS RB.out 1; clear hs1 hb1)
      | (go_at_call 21; first | (with_reducible refine (PO.out _ _ S1.out).mono ?_; rintro e w3 ⟨rfl, hw3⟩; obtain rfl := hw3.symm) | (with_reducible refine (PK.out _ _ S2.out).mono ?_; rintro e w3 ⟨rfl, hw3⟩; obtain rfl := hw3.symm))
      | (go_at_call 23; refine (NU.out _).mono ?_; rintro e w4 ⟨⟨n, rfl, hn⟩, hb1⟩; have HN := hid hn; have BB := hid (BB.out.trans (hb1.mono BB.out.size)); have RB := hid (block_below RB.out hb1); obtain ⟨z0, z1⟩ := two_cells RB.out; have zl := lt_of_block RB.out; have f0 := frozS RB.out 0; have f1 := frozS RB.out 1; clear hn hb1))
            obtain ⟨u0, u1⟩ := two_cells (set2 RB.out (.int .i64 1) (.int .i64 n))
            exact bodyPost_ret (v := .tuple #[.agg #[.int .i64 1, .int .i64 n], .bool (num? (bl s)).isSome]) (by simp [results, Tryz.results39, go_sem, u0, u1]) rfl ⟨itR_opt IW.out HN.out, below_set2 BB.out (Nat.le_refl _) _ _⟩
        · have h4' : ¬ (1 : Int) < (s.size : Int) := by omega
          rw [if_neg (fun c => h4 (by rw [← bl_len]; exact c.1))] at IW
          have NU := hid (fun W => l5Number_any s W hs)
          go_enter Tryz.func39, Tryz.ntmps39
          go_wp2_with (first
      | (go_at_call 67; refine (OP.out _).mono ?_; rintro e w1 ⟨g1, rfl, hs1, hb1⟩; have S1 := hid hs1; have BB := hid (BB.out.trans (hb1.mono BB.out.size)); have RB := hid (block_below RB.out hb1); obtain ⟨z0, z1⟩ := two_cells RB.out; have zl := lt_of_block RB.out; have f0 := frozS RB.out 0; have f1 := frozS RB.out 1; clear hs1 hb1)
      | (go_at_call 22; refine (KN.out _).mono ?_; rintro e w2 ⟨g2, rfl, hs1, hb1⟩; have S2 := hid hs1; have BB := hid (BB.out.trans (hb1.mono BB.out.size)); have RB := hid (block_below RB.out hb1); obtain ⟨z0, z1⟩ := two_cells RB.out; have zl := lt_of_block RB.out; have f0 := frozS RB.out 0; have f1 := frozS RB.out 1; clear hs1 hb1)
      | (go_at_call 21; first | (with_reducible refine (PO.out _ _ S1.out).mono ?_; rintro e w3 ⟨rfl, hw3⟩; obtain rfl := hw3.symm) | (with_reducible refine (PK.out _ _ S2.out).mono ?_; rintro e w3 ⟨rfl, hw3⟩; obtain rfl := hw3.symm))
      | (go_at_call 23; refine (NU.out _).mono ?_; rintro e w4 ⟨⟨n, rfl, hn⟩, hb1⟩; have HN := hid hn; have BB := hid (BB.out.trans (hb1.mono BB.out.size)); have RB := hid (block_below RB.out hb1); obtain ⟨z0, z1⟩ := two_cells RB.out; have zl := lt_of_block RB.out; have f0 := frozS RB.out 0; have f1 := frozS RB.out 1; clear hn hb1))
          obtain ⟨u0, u1⟩ := two_cells (set2 RB.out (.int .i64 1) (.int .i64 n))
          exact bodyPost_ret (v := .tuple #[.agg #[.int .i64 1, .int .i64 n], .bool (num? (bl s)).isSome]) (by simp [results, Tryz.results39, go_sem, u0, u1]) rfl ⟨itR_opt IW.out HN.out, below_set2 BB.out (Nat.le_refl _) _ _⟩
end Go.Proofs.YtbcjlpjohknljaaGreatDoor
namespace Go.Proofs.YtbcjlpjohknljaaGreatDoor
open Go.RowKit Go.Sort
set_option linter.unusedVariables false
attribute [local go_sem ↓] Go.wp_at_zero Go.wp_at_succ

def itC : List (Int × Int) → List Value
  | [] => []
  | e :: r => .int .i64 e.1 :: .int .i64 e.2 :: itC r
theorem itC_append : ∀ a b : List (Int × Int), itC (a ++ b) = itC a ++ itC b
  | [], b => rfl
  | e :: r, b => by simp [itC, itC_append r b]
abbrev ItRow (w : World) (B : Nat) (v : Value) (its : List (Int × Int)) : Prop := w.ownsRow B 96 2 v its.length (itC its)
theorem Tryz.infoIt2 : (Tryz.prog.info? 96).map (fun i => (i.zero, i.size, i.bytes)) = some (some (.agg #[.int .i64 0, .int .i64 0]), 2, 16) := by kernel_rfl
theorem one_it (a b : Int) : ∀ u ∈ [Value.int .i64 a, .int .i64 b], u.oneCell' = true := by intro u hu; simp at hu; rcases hu with rfl | rfl <;> rfl
theorem news_it (w : World) (a b : Int) : ∀ (j : Nat) u, [Value.int .i64 a, .int .i64 b][j]? = some u → (w.alloc (.cells #[.int .i64 a, .int .i64 b] 96)).cell? ((⟨w.heap.size, 0, none⟩ : Addr).add j) = some u := by
  intro j u hj
  rw [addr_plus, Nat.zero_add]
  have := heap_alloc_new w (.cells #[.int .i64 a, .int .i64 b] 96)
  unfold World.cell?
  simp only []
  rw [this]
  match j, hj with
  | 0, hj => simpa using hj
  | 1, hj => simpa using hj
set_option maxRecDepth 100000 in
set_option maxHeartbeats 1600000 in
theorem l5Code_any (ao : Option Addr) (m c : Nat) (fs : List (List UInt8)) (w : World) (hm : m ≤ 1048576) (hf : ∀ f ∈ fs, f.length ≤ 1048576) (h : StrsOf w ao m fs) :
    Calls Tryz.prog 24 #[.slice ao m c] w fun e w' => (∃ v, e = .returned (.tuple #[v, .bool (codeW fs).isSome]) ∧ (∃ a l c, v = .slice a l c) ∧ ∀ its, codeW fs = some its → ItRow w' w.heap.size v its) ∧ Below w.heap.size w w' := by
  obtain ⟨i0, hi, hz0, hz1, hz2⟩ := info_parts Tryz.infoIt2
  have hl := hid h.1
  have H0 := hid h
  have HF := hid hf
  clear h hf
  go_enter Tryz.func24, Tryz.ntmps24
  go_wp2
  go_loopw [4, 12] (fun p i wr => ∃ (k : Nat) (its : List (Int × Int)), k ≤ m ∧ i = .int .i64 k ∧ Hid (codeW (fs.take k) = some its) ∧ Hid (ItRow wr w.heap.size p its) ∧ Hid (Below w.heap.size w wr)) (fun _ i _ => m - (intOf i).toNat)
  case atStart => exact ⟨0, [], Nat.zero_le _, rfl, hid rfl, hid (World.ownsRow_lit w #[] 0 (Nat.le_refl _) (by decide) rfl), hid (below1 _ _)⟩
  case round =>
    obtain ⟨k, its, hkm, rfl, hZ, hR, hB⟩ := hrel
    obtain ⟨ao2, n2, cap2, rfl⟩ := row_form hR.out
    by_cases hkm2 : k < m
    · have hkm3 : (k : Int) < (m : Int) := by omega
      obtain ⟨b, off, rfl, hbl, hc⟩ := (H0.out.below hB.out).2 (by omega)
      have c1 := hc k hkm2
      have hkf : k < fs.length := by rw [hl.out]; exact hkm2
      have hxl : (fs.getD k []).length ≤ 1048576 := HF.out _ (by simp [List.getD_eq_getElem?_getD, hkf])
      have TK := hid (take_snocF hkf)
      have DK : Hid (itemW (fs.getD k []) = none → codeW fs = none) := hid (by
        intro hv
        have e : fs = fs.take k ++ fs.getD k [] :: fs.drop (k + 1) := by
          rw [← drop_getD_cons hkf, List.take_append_drop]
        rw [e]
        exact codeW_no _ hv _ _)
      obtain ⟨x, hx⟩ : ∃ x, x = fs.getD k [] := ⟨_, rfl⟩
      rw [← hx] at c1 TK DK hxl
      obtain ⟨t, ht⟩ : ∃ t : ByteArray, t = ⟨x.toArray⟩ := ⟨_, rfl⟩
      have c1' : wr.cell? ⟨b, off + k, none⟩ = some (.string t) := by rw [ht]; exact c1
      have hbt : x = bl t := ba_bl.1 ht.symm
      have hts : t.size ≤ 1048576 := by rw [← bl_len, ← hbt]; exact hxl
      have C := hid (l5Item_any t wr hts)
      rw [← hbt] at C
      cases hv : itemW x with
      | none =>
        have NO : Hid (codeW fs = none) := hid (DK.out hv)
        have C2 : Hid (Calls Tryz.prog 39 #[.string t] wr fun e w' => (∃ y z : Int, e = .returned (.tuple #[.agg #[.int .i64 y, .int .i64 z], .bool false])) ∧ Below wr.heap.size wr w') := hid (C.out.mono (by
          rintro e w' ⟨⟨y, z, h1, _⟩, h2⟩
          exact ⟨⟨y, z, by rw [h1, hv]; rfl⟩, h2⟩))
        clear c1 hx ht hc hbt hts hxl C hv DK TK hkf
        go_wp2_with (go_at_call 39; refine C2.out.mono ?_; rintro e w1 ⟨⟨y, z, rfl⟩, hb1⟩; have B1 := hid hb1; clear hb1)
        go_ret2
        exact ⟨⟨_, by rw [NO.out]; rfl, ⟨_, _, _, rfl⟩, fun zs hz => by rw [NO.out] at hz; cases hz⟩, (hB.out.trans (B1.out.mono hB.out.size)).alloc (Nat.le_trans hB.out.size B1.out.size) _⟩
      | some v =>
        obtain ⟨y, z⟩ := v
        have Z2 : Hid (codeW (fs.take (k + 1)) = some (its ++ [(y, z)])) := hid (by rw [TK.out]; exact codeW_snoc _ _ hv hZ.out)
        have ZL := hid (codeW_len hZ.out)
        have C2 : Hid (Calls Tryz.prog 39 #[.string t] wr fun e w' => e = .returned (.tuple #[.agg #[.int .i64 y, .int .i64 z], .bool true]) ∧ Below wr.heap.size wr w') := hid (C.out.mono (by
          rintro e w' ⟨⟨y', z', h1, h3⟩, h2⟩
          have h4 := h3 _ hv
          simp only [Prod.mk.injEq] at h4
          obtain ⟨rfl, rfl⟩ := h4
          exact ⟨by rw [h1, hv]; rfl, h2⟩))
        have HB : Hid (its.length + 1 ≤ 1048577) := hid (by have := ZL.out; simp at this; omega)
        clear c1 hx ht hc hbt hts hxl C hv DK TK hkf ZL
        go_wp2_with (first
          | (go_at_call 39; refine C2.out.mono ?_; rintro e w1 ⟨rfl, hb1⟩; have B1 := hid hb1; clear hb1)
          | (at_builtin; refine wpList_append_own _ rfl (.tmp 23) (.tmp 25) 69 rfl w.heap.size 96 i0 (.agg #[.int .i64 0, .int .i64 0]) 2 16 Tryz.underlying69 hi hz0 hz1 hz2 rfl (by decide) _ its.length (itC its) rfl (ownsRow_below (ownsRow_below hR.out B1.out) (below2 _ _ _)) ⟨w1.heap.size + 1, 0, none⟩ 1 1 [.int .i64 y, .int .i64 z] rfl rfl (by simpa using news_it (w1.alloc (.cells #[.int .i64 y, .int .i64 z] 96)) y z) (one_it y z) (by have := HB.out; unfold maxLen; omega) (by have := HB.out; omega) (by have := hB.out.size; have := B1.out.size; simp; omega) ?_))
        intro v' w2 hown' hgrow hnil
        obtain ⟨ao3, n3, cap3, rfl⟩ := row_form hown'
        have T2 : Hid (ItRow w2 w.heap.size (.slice ao3 n3 cap3) (its ++ [(y, z)])) := hid (by unfold ItRow; rw [itC_append]; simpa [itC] using hown')
        have BI := (hB.out.trans (B1.out.mono hB.out.size)).alloc (Nat.le_trans hB.out.size B1.out.size) (.cells #[.int .i64 y, .int .i64 z] 96)
        have B2 := hid (below_grown BI (Nat.le_refl _) (ownsRow_below (ownsRow_below hR.out B1.out) (below1 _ _)) hgrow)
        clear hown' hgrow hnil BI
        go_wp2
        go_roundw
        case rel => exact ⟨k + 1, its ++ [(y, z)], hkm2, by go_num, Z2, T2, B2⟩
        case measure => simp [intOf]; omega
    · have ek : k = m := by omega
      subst ek
      have YES : Hid (codeW fs = some its) := hid (by have h := hZ.out; rw [← hl.out, List.take_length] at h; exact h)
      have nl : ¬ (k : Int) < (k : Int) := by omega
      go_wp2
      go_ret2
      exact ⟨⟨_, by rw [YES.out]; rfl, ⟨_, _, _, rfl⟩, fun zs hz => by rw [YES.out] at hz; injection hz with hz; subst hz; exact hR.out⟩, hB.out⟩
end Go.Proofs.YtbcjlpjohknljaaGreatDoor
namespace Go.Proofs.YtbcjlpjohknljaaGreatDoor
open Go.RowKit Go.Sort
set_option linter.unusedVariables false
attribute [local go_sem ↓] Go.wp_at_zero Go.wp_at_succ

/-- What l5Stm answers: on yes the statement, with its code in a row of its own. -/
def stR (w w' : World) (fs : List (List UInt8)) (e : Ending) : Prop := ∃ (k a b : Int) (co : Option Addr) (cn cc : Nat), e = .returned (.tuple #[.agg #[.int .i64 k, .int .i64 a, .int .i64 b, .slice co cn cc], .bool (stmW fs).isSome]) ∧ ∀ x, stmW fs = some x → (x.kind = k ∧ x.a = a ∧ x.b = b) ∧ ItRow w' w.heap.size (.slice co cn cc) x.code
theorem quad_set {w : World} {H : Nat} {a b c d : Value} {t : TypeId} (k : w.heap[H]? = some (.cells #[a, b, c, d] t (0, 0))) (v0 v1 v2 v3 : Value) : ((((w.setCell ⟨H, 0, none⟩ v0).setCell ⟨H, 1, none⟩ v1).setCell ⟨H, 2, none⟩ v2).setCell ⟨H, 3, none⟩ v3).heap[H]? = some (.cells #[v0, v1, v2, v3] t (0, 0)) := by
  have h0 := heap_setCell_same w H 0 _ _ v0 k
  have h1 := heap_setCell_same _ H 1 _ _ v1 h0
  have h2 := heap_setCell_same _ H 2 _ _ v2 h1
  have h3 := heap_setCell_same _ H 3 _ _ v3 h2
  simpa using h3
theorem below_quad {B H : Nat} {w w2 : World} (h : Below B w w2) (hB : B ≤ H) (v0 v1 v2 v3 : Value) : Below B w ((((w2.setCell ⟨H, 0, none⟩ v0).setCell ⟨H, 1, none⟩ v1).setCell ⟨H, 2, none⟩ v2).setCell ⟨H, 3, none⟩ v3) :=
  (((h.setCell (p := ⟨H, 0, none⟩) hB v0).setCell (p := ⟨H, 1, none⟩) hB v1).setCell (p := ⟨H, 2, none⟩) hB v2).setCell (p := ⟨H, 3, none⟩) hB v3
theorem four_cellsS {w : World} {H : Nat} {a b c d : Value} {t : TypeId} (k : w.heap[H]? = some (.cells #[a, b, c, d] t (0, 0))) : w.cell? ⟨H, 0, none⟩ = some a ∧ w.cell? ⟨H, 1, none⟩ = some b ∧ w.cell? ⟨H, 2, none⟩ = some c ∧ w.cell? ⟨H, 3, none⟩ = some d := by simp [World.cell?, k]
theorem stR_no {w w' : World} {fs : List (List UInt8)} (h : stmW fs = none) (k a b : Int) (co : Option Addr) (cn cc : Nat) : stR w w' fs (.returned (.tuple #[.agg #[.int .i64 k, .int .i64 a, .int .i64 b, .slice co cn cc], .bool false])) := ⟨k, a, b, co, cn, cc, by rw [h]; rfl, fun x hx => by rw [h] at hx; cases hx⟩
end Go.Proofs.YtbcjlpjohknljaaGreatDoor
namespace Go.Proofs.YtbcjlpjohknljaaGreatDoor
open Go.RowKit Go.Sort
set_option linter.unusedVariables false
attribute [local go_sem ↓] Go.wp_at_zero Go.wp_at_succ

set_option maxRecDepth 100000 in
set_option maxHeartbeats 1600000 in
/-- A line with no statement. -/
theorem stm_nil (ao : Option Addr) (c : Nat) (w : World) : Calls Tryz.prog 25 #[.slice ao 0 c] w fun e w' => stR w w' [] e ∧ Below w.heap.size w w' := by
  have RB := hid (heap_alloc_new w (.cells #[.int .i64 0, .int .i64 0, .int .i64 0, .slice none 0 0] 75))
  have BB := hid (below1 w (.cells #[.int .i64 0, .int .i64 0, .int .i64 0, .slice none 0 0] 75))
  go_enter Tryz.func25, Tryz.ntmps25
  go_upto_region 1 with fail
  go_quiet (fail)
  all_goals
    go_wp2
    obtain ⟨u0, u1, u2, u3⟩ := four_cellsS (quad_set (w := (w.alloc (.cells #[.int .i64 0, .int .i64 0, .int .i64 0, .slice none 0 0] 75)).drewN nq) RB.out (.int .i64 0) (.int .i64 0) (.int .i64 0) (.slice none 0 0))
    have BN : Below w.heap.size w ((w.alloc (.cells #[.int .i64 0, .int .i64 0, .int .i64 0, .slice none 0 0] 75)).drewN nq) := ⟨BB.out.os, BB.out.tape, BB.out.output, BB.out.size, BB.out.block⟩
    exact bodyPost_ret (v := .tuple #[.agg #[.int .i64 0, .int .i64 0, .int .i64 0, .slice none 0 0], .bool false]) (by simp [results, Tryz.results25, go_sem, u0, u1, u2, u3]) rfl ⟨stR_no rfl _ _ _ _ _ _, below_quad BN (Nat.le_refl _) _ _ _ _⟩
end Go.Proofs.YtbcjlpjohknljaaGreatDoor
namespace Go.Proofs.YtbcjlpjohknljaaGreatDoor
open Go.RowKit Go.Sort
set_option linter.unusedVariables false
attribute [local go_sem ↓] Go.wp_at_zero Go.wp_at_succ

set_option maxRecDepth 100000 in
set_option maxHeartbeats 1600000 in
/-- A line whose statement has no name. -/
theorem stm_none (b off n c : Nat) (fs : List (List UInt8)) (w : World) (h : StrsOf w (some ⟨b, off, none⟩) (n + 1) fs) (hx : placeN stmsL (fs.getD 0 []) 0 < 0) (hn : stmW fs = none) : Calls Tryz.prog 25 #[.slice (some ⟨b, off, none⟩) (n + 1) c] w fun e w' => stR w w' fs e ∧ Below w.heap.size w w' := by
  obtain ⟨c0, hbl, _⟩ := h.one
  obtain ⟨t, ht⟩ : ∃ t : ByteArray, t = ⟨(fs.getD 0 []).toArray⟩ := ⟨_, rfl⟩
  have c1 : w.cell? ⟨b, off, none⟩ = some (.string t) := by rw [ht]; exact c0
  have hbt : fs.getD 0 [] = bl t := ba_bl.1 ht.symm
  rw [hbt] at hx
  obtain ⟨p, hp⟩ : ∃ p, p = placeN stmsL (bl t) 0 := ⟨_, rfl⟩
  have NM := hid (fun W => stmsN_any W)
  have PL := hid (fun W g (h : StrsOf W (some ⟨g, 0, none⟩) 9 stmsL) => l5Place_any (some ⟨g, 0, none⟩) 9 9 stmsL t W (by omega) h)
  rw [← hp] at PL hx
  have NO := hid hn
  have RB := hid (heap_alloc_new w (.cells #[.int .i64 0, .int .i64 0, .int .i64 0, .slice none 0 0] 75))
  have BB := hid (below1 w (.cells #[.int .i64 0, .int .i64 0, .int .i64 0, .slice none 0 0] 75))
  have hlen : (((n + 1 : Nat) : Int) == 0) = false := by simp; omega
  have hlen2 : ((n : Int) + 1 == 0) = false := by simp; omega
  have CB : Hid (∀ Y, Below w.heap.size w Y → Y.cell? ⟨b, off, none⟩ = some (.string t)) := hid (fun Y hY => (hY.cell (p := ⟨b, off, none⟩) hbl).trans c1)
  clear h hn hp c0 ht hbt
  have X1 := hid (CB.out _ BB.out)
  go_enter Tryz.func25, Tryz.ntmps25
  go_upto_region 1 with fail
  have k0 := X1.out
  go_region_held3 (fun X => X.cell? ⟨b, off, none⟩ = some (.string t)) (first | (with_reducible exact KX.out) | go_keep)
    (first
      | (go_at_call 40; refine (NM.out _).mono ?_; rintro e w1 ⟨g1, rfl, hs1, hb1⟩; have S1 := hid hs1; have B1 := hid (BB.out.drew.trans (hb1.mono BB.out.size)); have KX := hid (CB.out _ B1.out); have R1 := hid (block_below (block_below RB.out (Below.refl _ _).drew) hb1); clear hs1 hb1)
      | (go_at_call 21; with_reducible refine (PL.out _ _ S1.out).mono ?_; rintro e w3 ⟨rfl, hw3⟩; obtain rfl := hw3.symm))
  all_goals
    obtain ⟨z0, z1, z2, z3⟩ := four_cellsS R1.out
    have f0 := frozS R1.out 0
    have f1 := frozS R1.out 1
    have f2 := frozS R1.out 2
    have f3 := frozS R1.out 3
    have zl := lt_of_block R1.out
    go_wp2
    obtain ⟨u0, u1, u2, u3⟩ := four_cellsS (quad_set R1.out (.int .i64 0) (.int .i64 0) (.int .i64 0) (.slice none 0 0))
    exact bodyPost_ret (v := .tuple #[.agg #[.int .i64 0, .int .i64 0, .int .i64 0, .slice none 0 0], .bool false]) (by simp [results, Tryz.results25, go_sem, u0, u1, u2, u3]) rfl ⟨stR_no NO.out _ _ _ _ _ _, below_quad B1.out (Nat.le_refl _) _ _ _ _⟩
end Go.Proofs.YtbcjlpjohknljaaGreatDoor

import Derived.Test.YtbcjlpjohknljaaGreatDoorFa
namespace Go.Proofs.YtbcjlpjohknljaaGreatDoor
open Go.RowKit Go.Sort
set_option linter.unusedVariables false
attribute [local go_sem ↓] Go.wp_at_zero Go.wp_at_succ

/-- How many numbers a line begins with. -/
def lead (l : List UInt8) : Nat := if l = kObj then 3 else if l = kOn then 3 else if l = kSta then 2 else if l = kTim then 2 else if l = kSub then 1 else 0
theorem str_not {t : ByteArray} {l : List UInt8} (h : ¬ bl t = l) : (t.toList == l) = false := by
  rw [beq_eq_false_iff_ne]
  intro e
  apply h
  rw [← e]
  exact (ByteArray.toList_eq t).symm ▸ rfl
set_option maxRecDepth 100000 in
set_option maxHeartbeats 1600000 in
theorem leading_any (t : ByteArray) (w : World) : Calls Tryz.prog 20 #[.string t] w fun e w' => e = .returned (.int .i64 (lead (bl t) : Int)) ∧ w' = w := by
  by_cases h1 : bl t = kObj
  · obtain rfl : t = ⟨kObj.toArray⟩ := (ba_bl.2 h1.symm).symm
    go_enter Tryz.func20, Tryz.ntmps20
    go_wp2
    go_ret
    exact ⟨rfl, rfl⟩
  · by_cases h2 : bl t = kOn
    · obtain rfl : t = ⟨kOn.toArray⟩ := (ba_bl.2 h2.symm).symm
      go_enter Tryz.func20, Tryz.ntmps20
      go_wp2
      go_ret
      exact ⟨rfl, rfl⟩
    · by_cases h3 : bl t = kSta
      · obtain rfl : t = ⟨kSta.toArray⟩ := (ba_bl.2 h3.symm).symm
        go_enter Tryz.func20, Tryz.ntmps20
        go_wp2
        go_ret
        exact ⟨rfl, rfl⟩
      · by_cases h4 : bl t = kTim
        · obtain rfl : t = ⟨kTim.toArray⟩ := (ba_bl.2 h4.symm).symm
          go_enter Tryz.func20, Tryz.ntmps20
          go_wp2
          go_ret
          exact ⟨rfl, rfl⟩
        · by_cases h5 : bl t = kSub
          · obtain rfl : t = ⟨kSub.toArray⟩ := (ba_bl.2 h5.symm).symm
            go_enter Tryz.func20, Tryz.ntmps20
            go_wp2
            go_ret
            exact ⟨rfl, rfl⟩
          · have e : lead (bl t) = 0 := by simp [lead, h1, h2, h3, h4, h5]
            rw [e]
            have s1 := str_not h1
            have s2 := str_not h2
            have s3 := str_not h3
            have s4 := str_not h4
            have s5 := str_not h5
            simp only [kObj, kOn, kSta, kTim, kSub] at s1 s2 s3 s4 s5
            clear h1 h2 h3 h4 h5 e
            go_enter Tryz.func20, Tryz.ntmps20
            go_wp2
            go_ret
            exact ⟨rfl, rfl⟩
/-! What a line gives, keyword by keyword. -/
theorem lineW_sig (s : SyD) (r : List (List UInt8)) (bg : Bool) : lineW s kSig r bg = (match nums r with | some [n] => if bg then none else some { s with sigs := n } | _ => none) := by
  unfold lineW; rw [if_pos rfl]; rfl
theorem lineW_un (s : SyD) {key : List UInt8} (r : List (List UInt8)) (h : ¬ key = kSig) : lineW s key r false = none := by
  unfold lineW; rw [if_neg h, if_pos rfl]
theorem lineW_obj (s : SyD) (r : List (List UInt8)) : lineW s kObj r true = (match nums r with | some [p, q, d] => some { s with obs := s.obs ++ [⟨p, q, d, [], [], [], [], []⟩] } | _ => none) := by
  unfold lineW; rw [if_neg (by decide), if_neg (by decide), if_pos rfl]; rfl
theorem lineW_tim (s : SyD) (r : List (List UInt8)) : lineW s kTim r true = (match nums r with | some [o, g] => some { s with tms := s.tms ++ [(o, g)] } | _ => none) := by
  unfold lineW; rw [if_neg (by decide), if_neg (by decide), if_neg (by decide), if_pos rfl]; rfl
theorem lineW_var (s : SyD) (r : List (List UInt8)) : lineW s kVar r true = (match r with
    | [k, v] => if placeN kindsL k 0 < 0 then none else match num? v with
      | some n => oneOb s (fun o => { o with kinds := o.kinds ++ [1 + placeN kindsL k 0], vals := o.vals ++ [n] })
      | none => none
    | _ => none) := by
  unfold lineW; rw [if_neg (by decide), if_neg (by decide), if_neg (by decide), if_neg (by decide), if_pos rfl]; rfl
theorem lineW_sub (s : SyD) (r : List (List UInt8)) : lineW s kSub r true = (match nums r with | some [n] => oneOb s (fun o => { o with subs := o.subs ++ [n] }) | _ => none) := by
  unfold lineW; rw [if_neg (by decide), if_neg (by decide), if_neg (by decide), if_neg (by decide), if_neg (by decide), if_pos rfl]; rfl
theorem lineW_sta (s : SyD) (r : List (List UInt8)) : lineW s kSta r true = (match nums r with | some [p, i] => oneOb s (fun o => { o with sts := o.sts ++ [⟨p, i, [], []⟩] }) | _ => none) := by
  unfold lineW; rw [if_neg (by decide), if_neg (by decide), if_neg (by decide), if_neg (by decide), if_neg (by decide), if_neg (by decide), if_pos rfl]; rfl
theorem lineW_on (s : SyD) (r : List (List UInt8)) : lineW s kOn r true = (match numsN r 3, codeW (r.drop 3) with
    | some [f, g, t], some c => oneOb s (fun o => { o with trs := o.trs ++ [⟨f, g, c, t, []⟩] })
    | _, _ => none) := by
  unfold lineW; rw [if_neg (by decide), if_neg (by decide), if_neg (by decide), if_neg (by decide), if_neg (by decide), if_neg (by decide), if_neg (by decide), if_pos rfl]; rfl
theorem lineW_ent (s : SyD) (r : List (List UInt8)) : lineW s kEnt r true = (match stmW r with
    | some x => if (lastOb s).sts = [] then none else oneOb s (fun o => { o with sts := turnL o.sts (fun t => { t with entry := t.entry ++ [x] }) })
    | none => none) := by
  unfold lineW; rw [if_neg (by decide), if_neg (by decide), if_neg (by decide), if_neg (by decide), if_neg (by decide), if_neg (by decide), if_neg (by decide), if_neg (by decide), if_pos rfl]; rfl
theorem lineW_exi (s : SyD) (r : List (List UInt8)) : lineW s kExi r true = (match stmW r with
    | some x => if (lastOb s).sts = [] then none else oneOb s (fun o => { o with sts := turnL o.sts (fun t => { t with exit := t.exit ++ [x] }) })
    | none => none) := by
  unfold lineW; rw [if_neg (by decide), if_neg (by decide), if_neg (by decide), if_neg (by decide), if_neg (by decide), if_neg (by decide), if_neg (by decide), if_neg (by decide), if_neg (by decide), if_pos rfl]; rfl
theorem lineW_do (s : SyD) (r : List (List UInt8)) : lineW s kDo r true = (match stmW r with
    | some x => if (lastOb s).trs = [] then none else oneOb s (fun o => { o with trs := turnL o.trs (fun t => { t with action := t.action ++ [x] }) })
    | none => none) := by
  unfold lineW; rw [if_neg (by decide), if_neg (by decide), if_neg (by decide), if_neg (by decide), if_neg (by decide), if_neg (by decide), if_neg (by decide), if_neg (by decide), if_neg (by decide), if_neg (by decide), if_pos rfl]; rfl
theorem lineW_else (s : SyD) {key : List UInt8} (r : List (List UInt8)) (h0 : ¬ key = kSig) (h1 : ¬ key = kObj) (h2 : ¬ key = kTim) (h3 : ¬ key = kVar) (h4 : ¬ key = kSub) (h5 : ¬ key = kSta) (h6 : ¬ key = kOn) (h7 : ¬ key = kEnt) (h8 : ¬ key = kExi) (h9 : ¬ key = kDo) : lineW s key r true = none := by
  unfold lineW; rw [if_neg h0, if_neg (by decide), if_neg h1, if_neg h2, if_neg h3, if_neg h4, if_neg h5, if_neg h6, if_neg h7, if_neg h8, if_neg h9]
theorem oneOb_nil (s : SyD) (h : s.obs = []) (f : ObD → ObD) : oneOb s f = none := by unfold oneOb; rw [if_pos h]
theorem oneOb_snoc (sg : Int) (l : List ObD) (o : ObD) (tms : List (Int × Int)) (f : ObD → ObD) : oneOb ⟨sg, l ++ [o], tms⟩ f = some ⟨sg, l ++ [f o], tms⟩ := by
  unfold oneOb; rw [if_neg (by simp)]; simp only [turnL_snoc]
theorem lastOb_snoc (sg : Int) (l : List ObD) (o : ObD) (tms : List (Int × Int)) : lastOb ⟨sg, l ++ [o], tms⟩ = o := by simp [lastOb]
/-- With no object there are but three keywords. -/
theorem lineW_bare (s : SyD) {key : List UInt8} (r : List (List UInt8)) (h : s.obs = []) (h0 : ¬ key = kSig) (h1 : ¬ key = kObj) (h2 : ¬ key = kTim) : lineW s key r true = none := by
  unfold lineW
  rw [if_neg h0, if_neg (by decide), if_neg h1, if_neg h2]
  repeat' split
  all_goals first | rfl | exact oneOb_nil s h _
end Go.Proofs.YtbcjlpjohknljaaGreatDoor
namespace Go.Proofs.YtbcjlpjohknljaaGreatDoor
open Go.RowKit Go.Sort
set_option linter.unusedVariables false
attribute [local go_sem ↓] Go.wp_at_zero Go.wp_at_succ

/-- A variable's block as a row of one element. -/
def boxR (t : TypeId) (H : Nat) (xs : List Value) : Rw := ⟨t, xs.length, .slice (some ⟨H, 0, none⟩) 1 1, 1, xs⟩
theorem box_own {w : World} {B H : Nat} {t : TypeId} {xs : List Value} (h : w.heap[H]? = some (.cells xs.toArray t (0, 0))) (hB : B ≤ H) : (boxR t H xs).own w B :=
  ⟨by simp [boxR], .inr ⟨H, 1, _, rfl, hB, h, Nat.le_refl _, by unfold maxLen; omega, by simp [boxR], by simp [boxR]⟩⟩
theorem box_blk {w : World} {B H : Nat} {t : TypeId} {xs : List Value} (h : (boxR t H xs).own w B) : w.heap[H]? = some (.cells xs.toArray t (0, 0)) := by
  rcases h.2 with ⟨h0, _⟩ | ⟨g, cap, cur, h1, h2, h3, h4, h5, h6, h7⟩
  · simp [boxR] at h0
  · simp only [boxR, Value.slice.injEq, Option.some.injEq, Addr.mk.injEq, and_true, true_and] at h1
    obtain ⟨rfl, rfl⟩ := h1
    simp only [boxR, Nat.one_mul] at h6 h7 h3
    rw [List.take_of_length_le (by rw [Array.length_toList]; omega)] at h7
    rw [h3, ← h7]
section
variable {w w' : World} {B : Nat} {R : List Rw}
theorem Flat.box (h : Flat w B R) (hB : B ≤ w.heap.size) (t : TypeId) (xs : List Value) : Flat (w.alloc (.cells xs.toArray t)) B (boxR t w.heap.size xs :: R) :=
  h.fresh hB (below1 _ _) (box_own (heap_alloc_new _ _) (Nat.le_refl _))
theorem Flat.setBox {t : TypeId} {H : Nat} {xs : List Value} (h : Flat w B (boxR t H xs :: R)) (j : Nat) (u : Value) : Flat (w.setCell ⟨H, j, none⟩ u) B (boxR t H (xs.set j u) :: R) := by
  have := h.set (g := H) (n := 1) (cap := 1) j u
  simpa [boxR] using this
theorem Flat.mem_box {t : TypeId} {H : Nat} {xs : List Value} (h : Flat w B R) (hm : boxR t H xs ∈ R) : w.heap[H]? = some (.cells xs.toArray t (0, 0)) := box_blk (h.own _ hm)
end
theorem three_cc {w : World} {H : Nat} {a b c : Value} {t : TypeId} (k : w.heap[H]? = some (.cells #[a, b, c] t (0, 0))) : (w.cell? ⟨H, 0, none⟩ = some a ∧ w.cell? ⟨H, 1, none⟩ = some b ∧ w.cell? ⟨H, 2, none⟩ = some c) ∧ w.frozen? ⟨H, 0, none⟩ = false ∧ w.frozen? ⟨H, 1, none⟩ = false ∧ w.frozen? ⟨H, 2, none⟩ = false ∧ H < w.heap.size := by
  refine ⟨?_, ?_, ?_, ?_, lt_of_block k⟩ <;> simp [World.cell?, World.frozen?, k]
theorem tri_set {w : World} {H : Nat} {a b c : Value} {t : TypeId} (k : w.heap[H]? = some (.cells #[a, b, c] t (0, 0))) (v0 v1 v2 : Value) : (((w.setCell ⟨H, 0, none⟩ v0).setCell ⟨H, 1, none⟩ v1).setCell ⟨H, 2, none⟩ v2).heap[H]? = some (.cells #[v0, v1, v2] t (0, 0)) := by
  have h0 := heap_setCell_same w H 0 _ _ v0 k
  have h1 := heap_setCell_same _ H 1 _ _ v1 h0
  have h2 := heap_setCell_same _ H 2 _ _ v2 h1
  simpa using h2
/-! How great the lists are. -/
structure SmO (o : ObD) (N : Nat) : Prop where
  k : o.kinds.length ≤ N
  v : o.vals.length ≤ N
  u : o.subs.length ≤ N
  s : o.sts.length ≤ N
  t : o.trs.length ≤ N
  e : ∀ x ∈ o.sts, x.entry.length ≤ N ∧ x.exit.length ≤ N
  a : ∀ x ∈ o.trs, x.action.length ≤ N
structure SmD (s : SyD) (N : Nat) : Prop where
  o : s.obs.length ≤ N
  t : s.tms.length ≤ N
  a : ∀ o ∈ s.obs, SmO o N
/-- What a line is read with. -/
structure LnC (G : SyG) (R : List Rw) (B b off n c : Nat) (fs : List (List UInt8)) (w : World) : Prop where
  hB : B ≤ w.heap.size
  hF : Flat w B (G.rows ++ R)
  hs : StrsOf w (some ⟨b, off, none⟩) (n + 1) fs
  hn : n + 1 ≤ 1048576
  hc : n + 1 ≤ c
  hf : ∀ f ∈ fs, f.length ≤ 1048576
  hz : SmD G.dat 1048576
  ht : ∃ cs, w.heap[b]? = some (.cells cs 9 (0, 0))
/-- What l5Line answers. -/
def LnR (G : SyG) (R : List Rw) (B : Nat) (fs : List (List UInt8)) (begun : Bool) (w : World) (e : Ending) (w' : World) : Prop :=
  Below B w w' ∧ ((∃ G' : SyG, lineW G.dat (fs.getD 0 []) fs.tail begun = some G'.dat ∧ e = .returned (.tuple #[G'.val, .bool true]) ∧ Flat w' B (G'.rows ++ R)) ∨ (lineW G.dat (fs.getD 0 []) fs.tail begun = none ∧ ∃ (z : Int) (o1 o2 : Option Addr) (n1 n2 k1 k2 : Nat), e = .returned (.tuple #[.agg #[.int .i64 z, .slice o1 n1 k1, .slice o2 n2 k2], .bool false]) ∧ Flat w' B R))
abbrev sysB (H : Nat) (a b c : Value) : Rw := boxR 25 H [a, b, c]
abbrev sysO (a b c : Value) : Obj := .cells #[a, b, c] 25
/-- The two boxes of a call: the system at hand, and the answer. -/
theorem LnC.boxes {G : SyG} {R : List Rw} {B b off n c : Nat} {fs : List (List UInt8)} {w : World} (h : LnC G R B b off n c fs w) (u v x : Value) : Flat ((w.alloc (sysO u v x)).alloc (sysO (.int .i64 0) nilV nilV)) B (sysB (w.heap.size + 1) (.int .i64 0) nilV nilV :: sysB w.heap.size u v x :: (G.rows ++ R)) := by
  have h1 := h.hF.box h.hB 25 [u, v, x]
  have h2 := h1.box (by have := h.hB; simp; omega) 25 [.int .i64 0, nilV, nilV]
  simpa using h2
/-- What is left when the answer is laid down. -/
theorem ln_done {B H6 : Nat} {w X : World} {a b c : Value} {L : List Rw} (hX : Below B w X) (hB : B ≤ H6) (hF : Flat X B (sysB H6 a b c :: L)) (v0 v1 v2 : Value) : Flat (((X.setCell ⟨H6, 0, none⟩ v0).setCell ⟨H6, 1, none⟩ v1).setCell ⟨H6, 2, none⟩ v2) B L ∧ Below B w (((X.setCell ⟨H6, 0, none⟩ v0).setCell ⟨H6, 1, none⟩ v1).setCell ⟨H6, 2, none⟩ v2) ∧ (((X.setCell ⟨H6, 0, none⟩ v0).setCell ⟨H6, 1, none⟩ v1).setCell ⟨H6, 2, none⟩ v2).heap[H6]? = some (.cells #[v0, v1, v2] 25 (0, 0)) :=
  ⟨(((hF.setBox 0 v0).setBox 1 v1).setBox 2 v2).tail, ((hX.setCell (p := ⟨H6, 0, none⟩) hB v0).setCell (p := ⟨H6, 1, none⟩) hB v1).setCell (p := ⟨H6, 2, none⟩) hB v2, tri_set (box_blk hF.head) _ _ _⟩
theorem Flat.sub {w : World} {B : Nat} {L M R : List Rw} (h : Flat w B L) (hp : L.Perm (M ++ R)) : Flat w B R := (h.perm hp).right
/-- The answer. -/
theorem ln_ans {G : SyG} {R : List Rw} {B : Nat} {fs : List (List UInt8)} {bg : Bool} {w X : World} {H6 : Nat} {a b c : Value} {L : List Rw} (G' : SyG) (M : List Rw) (hX : Below B w X) (hB : B ≤ H6) (hF : Flat X B (sysB H6 a b c :: L)) (hp : L.Perm (M ++ (G'.rows ++ R))) (hd : lineW G.dat (fs.getD 0 []) fs.tail bg = some G'.dat) :
    LnR G R B fs bg w (.returned (.tuple #[.agg #[.int .i64 G'.sg, G'.ob.v, G'.tm.v], .bool true])) (((X.setCell ⟨H6, 0, none⟩ (.int .i64 G'.sg)).setCell ⟨H6, 1, none⟩ G'.ob.v).setCell ⟨H6, 2, none⟩ G'.tm.v) := by
  obtain ⟨h1, h2, _⟩ := ln_done hX hB hF (.int .i64 G'.sg) G'.ob.v G'.tm.v
  exact ⟨h2, .inl ⟨G', hd, rfl, h1.sub hp⟩⟩
theorem Flat.sublist {w : World} {B : Nat} {L M : List Rw} (h : Flat w B L) (hs : M.Sublist L) : Flat w B M := ⟨fun r hr => h.own r (hs.subset hr), h.far.sublist hs⟩
theorem ln_no {G : SyG} {R : List Rw} {B : Nat} {fs : List (List UInt8)} {bg : Bool} {w X : World} {H6 : Nat} {a0 b0 c0 : Value} {L : List Rw} (hX : Below B w X) (hB : B ≤ H6) (hd : lineW G.dat (fs.getD 0 []) fs.tail bg = none) (hF : Flat X B L) (hs : (sysB H6 a0 b0 c0 :: R).Sublist L) (z : Int) (o1 o2 : Option Addr) (n1 n2 k1 k2 : Nat) :
    LnR G R B fs bg w (.returned (.tuple #[.agg #[.int .i64 z, .slice o1 n1 k1, .slice o2 n2 k2], .bool false])) (((X.setCell ⟨H6, 0, none⟩ (.int .i64 z)).setCell ⟨H6, 1, none⟩ (.slice o1 n1 k1)).setCell ⟨H6, 2, none⟩ (.slice o2 n2 k2)) :=
  ⟨((hX.setCell (p := ⟨H6, 0, none⟩) hB _).setCell (p := ⟨H6, 1, none⟩) hB _).setCell (p := ⟨H6, 2, none⟩) hB _, .inr ⟨hd, z, o1, o2, n1, n2, k1, k2, rfl, ((((hF.sublist hs).setBox 0 _).setBox 1 _).setBox 2 _).tail⟩⟩
theorem ln_box {B H6 : Nat} {X : World} {a b c : Value} {L : List Rw} (hF : Flat X B (sysB H6 a b c :: L)) (v0 v1 v2 : Value) : (((X.setCell ⟨H6, 0, none⟩ v0).setCell ⟨H6, 1, none⟩ v1).setCell ⟨H6, 2, none⟩ v2).cell? ⟨H6, 0, none⟩ = some v0 ∧ (((X.setCell ⟨H6, 0, none⟩ v0).setCell ⟨H6, 1, none⟩ v1).setCell ⟨H6, 2, none⟩ v2).cell? ⟨H6, 1, none⟩ = some v1 ∧ (((X.setCell ⟨H6, 0, none⟩ v0).setCell ⟨H6, 1, none⟩ v1).setCell ⟨H6, 2, none⟩ v2).cell? ⟨H6, 2, none⟩ = some v2 :=
  (three_cc (tri_set (box_blk hF.head) v0 v1 v2)).1
end Go.Proofs.YtbcjlpjohknljaaGreatDoor
namespace Go.Proofs.YtbcjlpjohknljaaGreatDoor
open Go.RowKit Go.Sort
set_option linter.unusedVariables false

theorem SmO.mono {o : ObD} {N M : Nat} (h : SmO o N) (hm : N ≤ M) : SmO o M :=
  ⟨Nat.le_trans h.k hm, Nat.le_trans h.v hm, Nat.le_trans h.u hm, Nat.le_trans h.s hm, Nat.le_trans h.t hm, fun x hx => ⟨Nat.le_trans (h.e x hx).1 hm, Nat.le_trans (h.e x hx).2 hm⟩, fun x hx => Nat.le_trans (h.a x hx) hm⟩
theorem SmD.mono {s : SyD} {N M : Nat} (h : SmD s N) (hm : N ≤ M) : SmD s M :=
  ⟨Nat.le_trans h.o hm, Nat.le_trans h.t hm, fun o ho => (h.a o ho).mono hm⟩
theorem sm_zero (N : Nat) : SmD sy0 N := ⟨by simp [sy0], by simp [sy0], by simp [sy0]⟩
theorem oneOb_sm {s s' : SyD} {f : ObD → ObD} {N : Nat} (h : SmD s N) (he : oneOb s f = some s') (hf : ∀ o, SmO o N → SmO (f o) (N + 1)) : SmD s' (N + 1) := by
  unfold oneOb at he
  split at he
  · cases he
  · injection he with he
    subst he
    refine ⟨by rw [turnL_len]; exact Nat.le_succ_of_le h.o, Nat.le_succ_of_le h.t, fun o ho => ?_⟩
    rename_i hne
    rcases List.eq_nil_or_concat s.obs with e | ⟨l, x, e⟩
    · exact absurd e hne
    · simp only [e, List.concat_eq_append, turnL_snoc, List.mem_append, List.mem_singleton] at ho
      rcases ho with ho | rfl
      · exact (h.a o (by rw [e, List.concat_eq_append]; simp [ho])).mono (Nat.le_succ _)
      · exact hf _ (h.a x (by rw [e, List.concat_eq_append]; simp))
theorem turnL_mem {α : Type} {l : List α} {f : α → α} {y : α} (h : y ∈ turnL l f) : y ∈ l ∨ ∃ x ∈ l, y = f x := by
  rcases List.eq_nil_or_concat l with rfl | ⟨r, x, rfl⟩
  · exact absurd h (by simp [turnL])
  · rw [List.concat_eq_append, turnL_snoc] at h
    simp only [List.mem_append, List.mem_singleton] at h
    rcases h with h | h
    · left; simp [h]
    · right; exact ⟨x, by simp, h⟩
/-- A line makes each list longer by one at the most. -/
theorem lineW_sm {s s' : SyD} {key : List UInt8} {r : List (List UInt8)} {bg : Bool} {N : Nat} (h : SmD s N) (e : lineW s key r bg = some s') : SmD s' (N + 1) := by
  have ho := h.o
  have ht := h.t
  by_cases q0 : key = kSig
  · subst q0
    rw [lineW_sig] at e
    split at e
    · split at e
      · cases e
      · injection e with e; subst e
        exact ⟨by simp only; omega, by simp only; omega, fun o ho => (h.a o ho).mono (Nat.le_succ _)⟩
    · cases e
  cases bg with
  | false => rw [lineW_un s r q0] at e; cases e
  | true =>
  by_cases q2 : key = kObj
  · subst q2
    rw [lineW_obj] at e
    split at e
    · injection e with e; subst e
      refine ⟨by simp only [List.length_append, List.length_singleton]; omega, by simp only; omega, fun o ho => ?_⟩
      simp only [List.mem_append, List.mem_singleton] at ho
      rcases ho with ho | rfl
      · exact (h.a o ho).mono (Nat.le_succ _)
      · exact ⟨by simp, by simp, by simp, by simp, by simp, by simp, by simp⟩
    · cases e
  by_cases q3 : key = kTim
  · subst q3
    rw [lineW_tim] at e
    split at e
    · injection e with e; subst e
      exact ⟨by simp only; omega, by simp only [List.length_append, List.length_singleton]; omega, fun o ho => (h.a o ho).mono (Nat.le_succ _)⟩
    · cases e
  by_cases q4 : key = kVar
  · subst q4
    rw [lineW_var] at e
    split at e
    · split at e
      · cases e
      · split at e
        · refine oneOb_sm h e (fun o q => ?_)
          have q' := q.mono (Nat.le_succ N)
          exact ⟨by have := q.k; simp only [List.length_append, List.length_singleton]; omega, by have := q.v; simp only [List.length_append, List.length_singleton]; omega, q'.u, q'.s, q'.t, q'.e, q'.a⟩
        · cases e
    · cases e
  by_cases q5 : key = kSub
  · subst q5
    rw [lineW_sub] at e
    split at e
    · refine oneOb_sm h e (fun o q => ?_)
      have q' := q.mono (Nat.le_succ N)
      exact ⟨q'.k, q'.v, by have := q.u; simp only [List.length_append, List.length_singleton]; omega, q'.s, q'.t, q'.e, q'.a⟩
    · cases e
  by_cases q6 : key = kSta
  · subst q6
    rw [lineW_sta] at e
    split at e
    · refine oneOb_sm h e (fun o q => ?_)
      have q' := q.mono (Nat.le_succ N)
      refine ⟨q'.k, q'.v, q'.u, by have := q.s; simp only [List.length_append, List.length_singleton]; omega, q'.t, fun x hx => ?_, q'.a⟩
      simp only [List.mem_append, List.mem_singleton] at hx
      rcases hx with hx | rfl
      · exact q'.e x hx
      · exact ⟨by simp, by simp⟩
    · cases e
  by_cases q7 : key = kOn
  · subst q7
    rw [lineW_on] at e
    split at e
    · refine oneOb_sm h e (fun o q => ?_)
      have q' := q.mono (Nat.le_succ N)
      refine ⟨q'.k, q'.v, q'.u, q'.s, by have := q.t; simp only [List.length_append, List.length_singleton]; omega, q'.e, fun x hx => ?_⟩
      simp only [List.mem_append, List.mem_singleton] at hx
      rcases hx with hx | rfl
      · exact q'.a x hx
      · simp
    · cases e
  by_cases q8 : key = kEnt
  · subst q8
    rw [lineW_ent] at e
    split at e
    · split at e
      · cases e
      · refine oneOb_sm h e (fun o q => ?_)
        have q' := q.mono (Nat.le_succ N)
        refine ⟨q'.k, q'.v, q'.u, by rw [turnL_len]; exact q'.s, q'.t, fun x hx => ?_, q'.a⟩
        rcases turnL_mem hx with hx | ⟨y, hy, rfl⟩
        · exact q'.e x hx
        · have := q.e y hy
          exact ⟨by simp only [List.length_append, List.length_singleton]; omega, (q'.e y hy).2⟩
    · cases e
  by_cases q9 : key = kExi
  · subst q9
    rw [lineW_exi] at e
    split at e
    · split at e
      · cases e
      · refine oneOb_sm h e (fun o q => ?_)
        have q' := q.mono (Nat.le_succ N)
        refine ⟨q'.k, q'.v, q'.u, by rw [turnL_len]; exact q'.s, q'.t, fun x hx => ?_, q'.a⟩
        rcases turnL_mem hx with hx | ⟨y, hy, rfl⟩
        · exact q'.e x hx
        · have := q.e y hy
          exact ⟨(q'.e y hy).1, by simp only [List.length_append, List.length_singleton]; omega⟩
    · cases e
  by_cases q10 : key = kDo
  · subst q10
    rw [lineW_do] at e
    split at e
    · split at e
      · cases e
      · refine oneOb_sm h e (fun o q => ?_)
        have q' := q.mono (Nat.le_succ N)
        refine ⟨q'.k, q'.v, q'.u, q'.s, by rw [turnL_len]; exact q'.t, q'.e, fun x hx => ?_⟩
        rcases turnL_mem hx with hx | ⟨y, hy, rfl⟩
        · exact q'.a x hx
        · have := q.a y hy
          simp only [List.length_append, List.length_singleton]; omega
    · cases e
  · rw [lineW_else s r q0 q2 q3 q4 q5 q6 q7 q8 q9 q10] at e; cases e
/-! What a text gives, line by line. -/
theorem sysW_skip {ls : List (List UInt8)} {k : Nat} {s : SyD} {b : Bool} (h : k < ls.length) (hs : skipB (ls.getD k []) = true) : sysW (ls.drop k) k s b = sysW (ls.drop (k + 1)) (k + 1) s b := by
  rw [drop_getD_cons h, sysW, if_pos hs]
theorem sysW_line {ls : List (List UInt8)} {k : Nat} {s s' : SyD} {b : Bool} (h : k < ls.length) (hs : skipB (ls.getD k []) = false) (hi : lineW s ((cut 32 (ls.getD k [])).getD 0 []) (cut 32 (ls.getD k [])).tail b = some s') : sysW (ls.drop k) k s b = sysW (ls.drop (k + 1)) (k + 1) s' true := by
  rw [drop_getD_cons h, sysW, if_neg (by rw [hs]; decide), hi]
theorem sysW_wrong {ls : List (List UInt8)} {k : Nat} {s : SyD} {b : Bool} (h : k < ls.length) (hs : skipB (ls.getD k []) = false) (hi : lineW s ((cut 32 (ls.getD k [])).getD 0 []) (cut 32 (ls.getD k [])).tail b = none) : sysW (ls.drop k) k s b = (sy0, (k : Int) + 1) := by
  rw [drop_getD_cons h, sysW, if_neg (by rw [hs]; decide), hi]
end Go.Proofs.YtbcjlpjohknljaaGreatDoor
namespace Go.Proofs.YtbcjlpjohknljaaGreatDoor
open Go.RowKit Go.Sort
set_option linter.unusedVariables false

theorem TxRow.form {w : World} {B : Nat} {v : Value} {fs : List (List UInt8)} (h : TxRow w B v fs) (h0 : fs ≠ []) : ∃ g n c, v = .slice (some ⟨g, 0, none⟩) (n + 1) c ∧ fs.length = n + 1 ∧ n + 1 ≤ c ∧ B ≤ g ∧ StrsOf w (some ⟨g, 0, none⟩) (n + 1) fs := by
  have hl : fs.length ≠ 0 := fun e => h0 (List.length_eq_zero_iff.1 e)
  obtain ⟨m, hm⟩ : ∃ m, fs.length = m + 1 := ⟨fs.length - 1, by omega⟩
  rcases h.2 with ⟨_, h1⟩ | ⟨g, cap, cur, h1, h2, h3, h4, _⟩
  · exact absurd h1 hl
  · subst h1
    have hs := (TxRow.strs h).1
    rw [hm] at hs h4
    exact ⟨g, m, cap, by rw [hm], hm, h4, h2, hs⟩
theorem row_len {w : World} {B : Nat} {e : TypeId} {size : Nat} {ao : Option Addr} {k cap n : Nat} {xs : List Value} (h : w.ownsRow B e size (.slice ao k cap) n xs) : k = n := by
  rcases h.2 with ⟨h1, h2⟩ | ⟨g, cap, cur, h1, _⟩
  · simp only [Value.slice.injEq] at h1; omega
  · simp only [Value.slice.injEq] at h1; exact h1.2.1
theorem skip_head (a : List UInt8) : skipB a = true ↔ a = [] ∨ a.getD 0 0 = 35 := by
  cases a with
  | nil => simp [skipB]
  | cons x r => simp [skipB]
theorem own_far2 {w : World} {B : Nat} {e : TypeId} {size : Nat} {v : Value} {n : Nat} {xs : List Value} (h : w.ownsRow B e size v n xs) {H : Nat} {cs : Array Value} {t : TypeId} {fr : Nat × Nat} (ht : t ≠ e) (hH : w.heap[H]? = some (.cells cs t fr)) : v.ownBlock ≠ some H := by
  intro e2
  rcases h.2 with ⟨h0, _⟩ | ⟨g, cap, cur, h1, h2, h3, h4⟩
  · rw [h0] at e2; cases e2
  · rw [h1] at e2
    simp [Value.ownBlock] at e2
    subst e2
    rw [hH] at h3
    simp at h3
    exact ht h3.2.1
theorem own_tag {w : World} {B sz n : Nat} {t : TypeId} {v : Value} {xs : List Value} (h : w.ownsRow B t sz v n xs) {i : Nat} (e : v.ownBlock = some i) : ∃ cs, w.heap[i]? = some (.cells cs t (0, 0)) := by
  rcases h.2 with ⟨h0, _⟩ | ⟨g, cap, cur, h1, h2, h3, h4⟩
  · rw [h0] at e; cases e
  · rw [h1] at e
    simp [Value.ownBlock] at e
    subst e
    exact ⟨_, h3⟩
theorem from_drew {a w2 : World} (h : Below a.drew.heap.size a.drew w2) : Below a.heap.size a w2 := (Below.refl _ _).drew.trans h
theorem from_alloc {a w2 : World} {o : Obj} (h : Below (a.alloc o).heap.size (a.alloc o) w2) : Below a.heap.size a w2 := (below1 a o).trans (h.mono (by simp))
theorem from_alloc_drew {a w2 : World} {o : Obj} (h : Below (a.alloc o).drew.heap.size (a.alloc o).drew w2) : Below a.heap.size a w2 := from_alloc (from_drew h)
theorem SyG.form {w : World} {B : Nat} {G : SyG} {R : List Rw} (h : Flat w B (G.rows ++ R)) : ∃ eo ec xo xc, G.ob.v = .slice eo G.ob.xs.length ec ∧ G.tm.v = .slice xo G.tm.xs.length xc := by
  obtain ⟨eo, ec, xo, xc, ev, _, _⟩ := SyG.read h.left
  simp only [SyG.val, Value.agg.injEq] at ev
  have ev0 := congrArg Array.toList ev
  simp only [List.cons.injEq, true_and, and_true] at ev0
  exact ⟨eo, ec, xo, xc, ev0.1, ev0.2⟩
end Go.Proofs.YtbcjlpjohknljaaGreatDoor

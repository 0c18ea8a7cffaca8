import Derived.Test.YthaklmdhkkfigaaGreatXf
import Derived.Test.YthaklmdhkkfigaaGreatYc
import Derived.MapKept
import Derived.Test.YthaklmdhkkfigaaGreatZb
namespace Go.Proofs.YthaklmdhkkfigaaGreat
open Go.RowKit Go.Sort
set_option linter.unusedVariables false

/-- What the map of subscribers holds. -/
structure SubE (W : World) (B m : Nat) (es : Array MapEntry) (n : Nat) (f : Int → List Nat) : Prop where
  hm : W.heap[m]? = some (.map es n)
  key : ∀ x ∈ es.toList, MapKept.IsKey (.int .i64) x.key
  row : ∀ (j : Nat) x z, es[j]? = some x → x.key = .int .i64 z → ActRow W B x.val (f z)
  far : ∀ (i j : Nat) x y, i ≠ j → es[i]? = some x → es[j]? = some y → x.key ≠ y.key ∧ Ap x.val y.val
  non : ∀ z, (∀ x ∈ es.toList, x.key ≠ .int .i64 z) → f z = []
/-- One subscriber more. -/
def addS (f : Int → List Nat) (z : Int) (a : Nat) : Int → List Nat := fun y => if y = z then f y ++ [a] else f y
def subsF (f : Int → List Nat) (a : Nat) (us : List Int) : Int → List Nat := us.foldl (fun f z => addS f z a) f
def rankF (l : List (Nat × List Int)) : Int → List Nat := l.foldl (fun f x => subsF f x.1 x.2) (fun _ => [])
theorem subsF_snoc (f : Int → List Nat) (a : Nat) (us : List Int) (z : Int) : subsF f a (us ++ [z]) = addS (subsF f a us) z a := by unfold subsF; rw [List.foldl_append]; rfl
theorem rankF_snoc (l : List (Nat × List Int)) (x : Nat × List Int) : rankF (l ++ [x]) = subsF (rankF l) x.1 x.2 := by unfold rankF; rw [List.foldl_append]; rfl
theorem addS_len (f : Int → List Nat) (z : Int) (a : Nat) (y : Int) : (addS f z a y).length ≤ (f y).length + 1 := by unfold addS; split <;> simp
theorem SubE.below {W Y : World} {B m : Nat} {es : Array MapEntry} {n : Nat} {f : Int → List Nat} (h : SubE W B m es n f) (hb : Below W.heap.size W Y) : SubE Y B m es n f :=
  ⟨(hb.block m (Array.getElem?_eq_some_iff.1 h.hm).1).trans h.hm, h.key, fun j x z h1 h2 => ownsRow_below (h.row j x z h1 h2) hb, h.far, h.non⟩
theorem SubE.base {W : World} {B C m : Nat} {es : Array MapEntry} {n : Nat} {f : Int → List Nat} (h : SubE W B m es n f) (hb : C ≤ B) : SubE W C m es n f := ⟨h.hm, h.key, fun j x z h1 h2 => row_base (h.row j x z h1 h2) hb, h.far, h.non⟩
theorem key_int {v : Value} (h : MapKept.IsKey (.int .i64) v) : ∃ z, v = .int .i64 z := by
  cases v <;> simp_all [MapKept.IsKey]
theorem chk_int (em : Bool) (a : Int) (w : World) : (Instr.checkKey em 10000 3 (.int .i64 a)).run Tryz.prog w = .ok () w := MapKept.run_checkKey (d := .int .i64) Tryz.underlying3 (by simp [MapKept.IsKey]) em 9999
/-- What is found under a signal; what a store there leaves. -/
structure Found (W : World) (B m : Nat) (es : Array MapEntry) (n : Nat) (f : Int → List Nat) (z : Int) (v : Value) : Prop where
  row : ActRow W B v (f z)
  look : ∀ Y, Y.heap[m]? = some (.map es n) → (Instr.lookup 81 (.map (some m)) (.int .i64 z) false).run Tryz.prog Y = .ok v Y
  put : ∀ (X Y : World) (g k cap a : Nat), SubE X B m es n f → X.grownBy Y v.ownBlock → (v.ownBlock = some g ∨ g = X.heap.size) → ActRow Y B (.slice (some ⟨g, 0, none⟩) k cap) (f z ++ [a]) →
    ∃ Y2 es2 n2, (Instr.mapUpdate 81 (.map (some m)) (.int .i64 z) (.slice (some ⟨g, 0, none⟩) k cap)).run Tryz.prog Y = .ok () Y2 ∧ SubE Y2 B m es2 n2 (addS f z a) ∧ Tn (· = m) Y Y2
theorem act_map {W : World} {B m : Nat} {es : Array MapEntry} {n k : Nat} {v : Value} {xs : List Value} (hm : W.heap[m]? = some (.map es n)) (h : W.ownsRow B 146 1 v k xs) : v.ownBlock ≠ some m := by
  intro e
  rcases h.2 with ⟨h0, _⟩ | ⟨g, cap, cur, h1, h2, h3, _⟩
  · rw [h0] at e; cases e
  · rw [h1] at e
    simp [Value.ownBlock] at e
    subst e
    rw [hm] at h3
    cases h3
theorem tn_map {W : World} {m : Nat} {o o' : Obj} (hm : W.heap[m]? = some o) : Tn (· = m) W { W with heap := W.heap.setIfInBounds m o' } := ⟨rfl, rfl, rfl, by simp, fun b _ h => (MapKept.heap_set hm).2 b h⟩
theorem sub_find {W : World} {B m : Nat} {es : Array MapEntry} {n : Nat} {f : Int → List Nat} (h : SubE W B m es n f) (z : Int) : ∃ v, Found W B m es n f z v := by
  have hk : MapKept.IsKey (.int .i64) (.int .i64 z) := by simp [MapKept.IsKey]
  rcases MapKept.findNow_spec hk es.toList 0 h.key with ⟨h1, h2⟩ | ⟨j, e, h1, h2, h3⟩
  · have hz : f z = [] := h.non z h2
    refine ⟨.slice none 0 0, ?_, ?_, ?_⟩
    · rw [hz]; exact World.ownsRow_nil _ _ _ _
    · intro Y hb
      have hf := MapKept.run_findKey (P := Tryz.prog) (w := Y) (kt := 3) Tryz.underlying3 h1
      have hzv : (zeroValue 80).run Tryz.prog Y = .ok (.slice none 0 0) Y := by kernel_rfl
      simp [Instr.lookup, run_underlying Tryz.underlying81, MapKept.run_getObj_map hb, chk_int, hf, hzv, Result.andThen]
    · intro X Y g k cap a hX hg hat hr
      have hb : Y.heap[m]? = some (.map es n) := (hg.block m (Array.getElem?_eq_some_iff.1 hX.hm).1 (fun x => by simp [Value.ownBlock] at x)).trans hX.hm
      have hf := MapKept.run_findKey (P := Tryz.prog) (w := Y) (kt := 3) Tryz.underlying3 h1
      refine ⟨{ Y with heap := Y.heap.setIfInBounds m (.map (es.push { key := .int .i64 z, val := .slice (some ⟨g, 0, none⟩) k cap, born := n }) (n + 1)) }, es.push { key := .int .i64 z, val := .slice (some ⟨g, 0, none⟩) k cap, born := n }, n + 1, ?_, ?_, tn_map hb⟩
      · simp [Instr.mapUpdate, run_underlying Tryz.underlying81, MapKept.run_getObj_map hb, chk_int, hf, MapKept.run_setObj_map _ hb, Result.andThen]
      · have tn := tn_map (o' := .map (es.push { key := .int .i64 z, val := .slice (some ⟨g, 0, none⟩) k cap, born := n }) (n + 1)) hb
        have gN : g = X.heap.size := by
          rcases hat with e | e
          · simp [Value.ownBlock] at e
          · exact e
        have keepR : ∀ {v' : Value} {l : List Nat}, ActRow Y B v' l → ActRow { Y with heap := Y.heap.setIfInBounds m (.map (es.push { key := .int .i64 z, val := .slice (some ⟨g, 0, none⟩) k cap, born := n }) (n + 1)) } B v' l := fun {v' l} ho => row_same ho (fun b hb' e => tn.block b hb' (fun x => act_map hb ho (by rw [e, x])))
        have old : ∀ (j : Nat) x y, es[j]? = some x → x.key = .int .i64 y → ActRow Y B x.val (f y) := fun j x y h5 h6 => row_same (hX.row j x y h5 h6) (fun b hb' e => hg.block b hb' (fun x => by simp [Value.ownBlock] at x))
        refine ⟨(MapKept.heap_set hb).1, ?_, ?_, ?_, ?_⟩
        · intro x hx
          simp only [Array.toList_push, List.mem_append, List.mem_singleton] at hx
          rcases hx with hx | rfl
          · exact h.key x hx
          · exact hk
        · intro j x y hj hy
          rw [Array.getElem?_push] at hj
          split at hj
          · simp at hj
            subst hj
            simp at hy
            subst hy
            unfold addS
            rw [if_pos rfl]
            exact keepR hr
          · have ne : ¬ y = z := by
              rintro rfl
              exact h2 x (by rw [← Array.getElem?_toList] at hj; exact List.mem_of_getElem? hj) hy
            unfold addS
            rw [if_neg ne]
            exact keepR (old j x y hj hy)
        · intro i j x y hij hi hj
          rw [Array.getElem?_push] at hi hj
          have fresh : ∀ (j : Nat) x, es[j]? = some x → x.key ≠ .int .i64 z ∧ ∀ b, x.val.ownBlock = some b → b < X.heap.size := by
            intro j x hj
            have hmem : x ∈ es.toList := by rw [← Array.getElem?_toList] at hj; exact List.mem_of_getElem? hj
            obtain ⟨y, hy⟩ := key_int (h.key x hmem)
            exact ⟨h2 x hmem, fun b hb' => ((hX.row j x y hj hy).lt b hb').2⟩
          split at hi
          · split at hj
            · omega
            · simp at hi
              subst hi
              obtain ⟨k1, k2⟩ := fresh j y hj
              refine ⟨fun e => k1 e.symm, fun b e1 e2 => ?_⟩
              simp [Value.ownBlock] at e1
              have := k2 b e2
              omega
          · split at hj
            · simp at hj
              subst hj
              obtain ⟨k1, k2⟩ := fresh i x hi
              refine ⟨k1, fun b e1 e2 => ?_⟩
              simp [Value.ownBlock] at e2
              have := k2 b e1
              omega
            · exact h.far i j x y hij hi hj
        · intro y hy
          have ne : ¬ y = z := by
            rintro rfl
            exact hy { key := .int .i64 y, val := .slice (some ⟨g, 0, none⟩) k cap, born := n } (by simp) rfl
          unfold addS
          rw [if_neg ne]
          exact h.non y (fun x hx => hy x (by simp only [Array.toList_push, List.mem_append]; exact .inl hx))
  · have hj : es[j]? = some e := by simpa using h2
    rw [Nat.zero_add] at h1
    refine ⟨e.val, h.row j e z hj h3, ?_, ?_⟩
    · intro Y hb
      have hf := MapKept.run_findKey (P := Tryz.prog) (w := Y) (kt := 3) Tryz.underlying3 h1
      simp [Instr.lookup, run_underlying Tryz.underlying81, MapKept.run_getObj_map hb, chk_int, hf, Result.andThen]
    · intro X Y g k cap a hX hg hat hr
      have hb : Y.heap[m]? = some (.map es n) := (hg.block m (Array.getElem?_eq_some_iff.1 hX.hm).1 (fun x => act_map hX.hm (hX.row j e z hj h3) x.symm)).trans hX.hm
      have hf := MapKept.run_findKey (P := Tryz.prog) (w := Y) (kt := 3) Tryz.underlying3 h1
      refine ⟨{ Y with heap := Y.heap.setIfInBounds m (.map (es.modify j fun e => { e with key := .int .i64 z, val := .slice (some ⟨g, 0, none⟩) k cap }) n) }, es.modify j fun e => { e with key := .int .i64 z, val := .slice (some ⟨g, 0, none⟩) k cap }, n, ?_, ?_, tn_map hb⟩
      · simp [Instr.mapUpdate, run_underlying Tryz.underlying81, MapKept.run_getObj_map hb, chk_int, hf, hj, h3, MapKept.run_keyThatStays hk, MapKept.run_setObj_map _ hb, Result.andThen]
      · have tn := tn_map (o' := .map (es.modify j fun e => { e with key := .int .i64 z, val := .slice (some ⟨g, 0, none⟩) k cap }) n) hb
        have keepR : ∀ {v' : Value} {l : List Nat}, ActRow Y B v' l → ActRow { Y with heap := Y.heap.setIfInBounds m (.map (es.modify j fun e => { e with key := .int .i64 z, val := .slice (some ⟨g, 0, none⟩) k cap }) n) } B v' l := fun {v' l} ho => row_same ho (fun b hb' e => tn.block b hb' (fun x => act_map hb ho (by rw [e, x])))
        have old : ∀ (i : Nat) x y, i ≠ j → es[i]? = some x → x.key = .int .i64 y → ActRow Y B x.val (f y) := fun i x y hij h5 h6 => row_same (hX.row i x y h5 h6) (fun b hb' e' => hg.block b hb' (fun x' => (h.far i j x e hij h5 hj).2 b e' x'.symm))
        have at_ : ∀ (i : Nat) x, (es.modify j fun e => { e with key := .int .i64 z, val := .slice (some ⟨g, 0, none⟩) k cap })[i]? = some x → (i = j ∧ x.key = .int .i64 z ∧ x.val = .slice (some ⟨g, 0, none⟩) k cap) ∨ (i ≠ j ∧ es[i]? = some x) := by
          intro i x hi
          rw [Array.getElem?_modify] at hi
          split at hi
          · rename_i e1
            subst e1
            rw [hj] at hi
            simp at hi
            subst hi
            exact .inl ⟨rfl, rfl, rfl⟩
          · rename_i e1
            exact .inr ⟨fun x => e1 x.symm, hi⟩
        refine ⟨(MapKept.heap_set hb).1, MapKept.isKey_modify h.key _ _ (fun e' he' => by rw [hj] at he'; cases he'; exact h3.symm), ?_, ?_, ?_⟩
        · intro i x y hi hy
          rcases at_ i x hi with ⟨rfl, k1, k2⟩ | ⟨k1, k2⟩
          · rw [k1] at hy
            simp at hy
            subst hy
            unfold addS
            rw [if_pos rfl, k2]
            exact keepR hr
          · have ne : ¬ y = z := by
              rintro rfl
              exact (h.far i j x e k1 k2 hj).1 (hy.trans h3.symm)
            unfold addS
            rw [if_neg ne]
            exact keepR (old i x y k1 k2 hy)
        · have low : ∀ (i : Nat) x, i ≠ j → es[i]? = some x → x.key ≠ .int .i64 z ∧ ∀ b, x.val.ownBlock = some b → ¬ b = g := by
            intro i x hij hi
            have hmem : x ∈ es.toList := by rw [← Array.getElem?_toList] at hi; exact List.mem_of_getElem? hi
            obtain ⟨y, hy⟩ := key_int (h.key x hmem)
            refine ⟨fun e2 => (h.far i j x e hij hi hj).1 (e2.trans h3.symm), fun b hb' e2 => ?_⟩
            rcases hat with k1 | k1
            · exact (h.far i j x e hij hi hj).2 b hb' (by rw [e2]; exact k1)
            · have := ((hX.row i x y hi hy).lt b hb').2
              omega
          intro i i' x y hij hi hi'
          rcases at_ i x hi with ⟨rfl, k1, k2⟩ | ⟨k1, k2⟩
          · rcases at_ i' y hi' with ⟨rfl, l1, l2⟩ | ⟨l1, l2⟩
            · exact absurd rfl hij
            · obtain ⟨o1, o2⟩ := low i' y l1 l2
              refine ⟨fun e2 => o1 (e2.symm.trans k1), fun b e1 e2 => ?_⟩
              rw [k2] at e1
              simp [Value.ownBlock] at e1
              exact o2 b e2 e1.symm
          · rcases at_ i' y hi' with ⟨rfl, l1, l2⟩ | ⟨l1, l2⟩
            · obtain ⟨o1, o2⟩ := low i x k1 k2
              refine ⟨fun e2 => o1 (e2.trans l1), fun b e1 e2 => ?_⟩
              rw [l2] at e2
              simp [Value.ownBlock] at e2
              exact o2 b e1 e2.symm
            · exact h.far i i' x y hij k2 l2
        · intro y hy
          have hmem : e ∈ es.toList := by rw [← Array.getElem?_toList] at hj; exact List.mem_of_getElem? hj
          have ne : ¬ y = z := by
            rintro rfl
            have h5 : (es.modify j fun e => { e with key := .int .i64 y, val := .slice (some ⟨g, 0, none⟩) k cap })[j]? = some { e with key := .int .i64 y, val := .slice (some ⟨g, 0, none⟩) k cap } := by rw [Array.getElem?_modify, if_pos rfl, hj]; rfl
            exact hy _ (by rw [← Array.getElem?_toList] at h5; exact List.mem_of_getElem? h5) rfl
          unfold addS
          rw [if_neg ne]
          refine h.non y (fun x hx hxk => ?_)
          obtain ⟨i, hi⟩ := List.getElem?_of_mem hx
          rw [Array.getElem?_toList] at hi
          by_cases e1 : i = j
          · subst e1
            rw [hj] at hi
            cases hi
            exact ne (by rw [h3] at hxk; simp at hxk; exact hxk.symm)
          · have h5 : (es.modify j fun e => { e with key := .int .i64 z, val := .slice (some ⟨g, 0, none⟩) k cap })[i]? = some x := by rw [Array.getElem?_modify, if_neg (fun x => e1 x.symm)]; exact hi
            exact hy x (by rw [← Array.getElem?_toList] at h5; exact List.mem_of_getElem? h5) hxk
theorem act_own {w : World} {B n : Nat} {v : Value} {l : List Nat} (h : ActRow w B v l) (hn : l.length = n) : w.ownsRow B 146 1 v n (l.map (fun a => Value.pointer (some ⟨a, 0, none⟩))) := by subst hn; exact h
theorem act_row {w : World} {B n : Nat} {v : Value} {l : List Nat} (hn : l.length = n) (h : w.ownsRow B 146 1 v n (l.map (fun a => Value.pointer (some ⟨a, 0, none⟩)))) : ActRow w B v l := by subst hn; exact h
theorem sub_start {W : World} {B m : Nat} (h : W.heap[m]? = some (.map #[] 0)) : SubE W B m #[] 0 (fun _ => []) := ⟨h, fun x hx => by simp at hx, fun j x z hj => by simp at hj, fun i j x y _ hi => by simp at hi, fun _ _ => rfl⟩
end Go.Proofs.YthaklmdhkkfigaaGreat
namespace Go.Proofs.YthaklmdhkkfigaaGreat
open Go.Shelf Go.RowKit Go.Lib Go.Sort
set_option linter.unusedVariables false
attribute [local go_sem ↓] Go.wp_at_zero Go.wp_at_succ

theorem subsF_len (a : Nat) (z : Int) : ∀ (us : List Int) (f : Int → List Nat), (subsF f a us z).length ≤ (f z).length + us.length
  | [], f => by simp [subsF]
  | u :: r, f => by
    have h := subsF_len a z r (addS f u a)
    have h2 := addS_len f u a z
    simp only [subsF, List.foldl_cons, List.length_cons] at *
    omega
theorem rankF_len (z : Int) : ∀ (l : List (Nat × List Int)) (f : Int → List Nat) (N : Nat), (∀ x ∈ l, x.2.length ≤ 1048576) → (f z).length ≤ N → (l.foldl (fun f x => subsF f x.1 x.2) f z).length ≤ N + l.length * 1048576
  | [], f, N, _, h => by simpa using h
  | x :: r, f, N, hx, h => by
    have h1 := subsF_len x.1 z x.2 f
    have h2 := hx x (by simp)
    have h3 := rankF_len z r (subsF f x.1 x.2) (N + 1048576) (fun y hy => hx y (by simp [hy])) (by omega)
    simp only [List.foldl_cons, List.length_cons]
    omega
/-- Which actor a number names: beyond the row's end the first one. -/
def ixA (n i : Nat) : Nat := if i < n then i else 0
theorem ixA_lt {n : Nat} (h : 1 ≤ n) (i : Nat) : ixA n i < n := by unfold ixA; split <;> omega
def aA (cl : List Ac) (i : Nat) : Nat := (cl.getD (ixA cl.length i) ac0).a
def pA (os : List ObD) (cl : List Ac) (i : Nat) : Int := (os.getD (ixA cl.length i) ob0).prio
/-- The actors in an order, each with its signals. -/
def lstA (os : List ObD) (cl : List Ac) (d : Array Nat) : List (Nat × List Int) := d.toList.map (fun i => (aA cl i, (os.getD (ixA cl.length i) ob0).subs))
/-- What rank leaves. -/
structure Ranked (w0 w w' : World) (H : Nat) (sg : Int) (A X s6 g9 g10 rv : Value) (wt tk : Int) (rs : List (Int × Int × Int)) (os : List ObD) (cl : List Ac) (R : Value) (m : Nat) (d : Array Nat) (es : Array MapEntry) (n : Nat) : Prop where
  perm : PermIn 0 cl.length (Array.range cl.length) d
  sort : SortedIn (ltOf (cfP (pA os cl))) 0 cl.length d
  sub : SubE w' w.heap.size m es n (rankF (lstA os cl d))
  eng : Eng w' w0.heap.size H sg A R (.map (some m)) X s6 g9 g10 rv wt tk rs
  tn : Tn (· = H) w w'
theorem eng_set {w : World} {B H : Nat} {sg : Int} {A R M X s6 g9 g10 rv : Value} {wt tk : Int} {rs : List (Int × Int × Int)} (h : Eng w B H sg A R M X s6 g9 g10 rv wt tk rs) (v : Value) : Eng (w.setCell ⟨H, 2, none⟩ v) B H sg A v M X s6 g9 g10 rv wt tk rs ∧ Eng (w.setCell ⟨H, 3, none⟩ v) B H sg A R v X s6 g9 g10 rv wt tk rs ∧ Eng (w.setCell ⟨H, 1, none⟩ v) B H sg v R M X s6 g9 g10 rv wt tk rs ∧ Eng (w.setCell ⟨H, 4, none⟩ v) B H sg A R M v s6 g9 g10 rv wt tk rs := by
  have k : ∀ o, Kp [106] w (w.setCell ⟨H, o, none⟩ v) := fun o => Kp.set h.o (by decide) _
  exact ⟨⟨by rw [heap_setCell_same w H 2 _ _ v h.o]; rfl, h.hH, (k 2).own h.r (by simp)⟩, ⟨by rw [heap_setCell_same w H 3 _ _ v h.o]; rfl, h.hH, (k 3).own h.r (by simp)⟩, ⟨by rw [heap_setCell_same w H 1 _ _ v h.o]; rfl, h.hH, (k 1).own h.r (by simp)⟩, ⟨by rw [heap_setCell_same w H 4 _ _ v h.o]; rfl, h.hH, (k 4).own h.r (by simp)⟩⟩
theorem lst_get {os : List ObD} {cl : List Ac} {d : Array Nat} {j : Nat} (h : j < d.size) : (lstA os cl d)[j]? = some (aA cl d[j]!, (os.getD (ixA cl.length d[j]!) ob0).subs) := by
  unfold lstA
  rw [List.getElem?_map, Array.getElem?_toList, Array.getElem?_eq_getElem h]
  simp [h]
theorem lst_len (os : List ObD) (cl : List Ac) (d : Array Nat) : (lstA os cl d).length = d.size := by simp [lstA]
theorem tn_grow {K : Nat → Prop} {a b c : World} {e : TypeId} {size n : Nat} {v : Value} {xs : List Value} (h : Tn K a b) (ho : b.ownsRow a.heap.size e size v n xs) (hg : b.grownBy c v.ownBlock) : Tn K a c :=
  ⟨hg.os.trans h.os, hg.tape.trans h.tape, hg.output.trans h.output, Nat.le_trans h.size hg.size, fun i hi hs => (hg.block i (Nat.lt_of_lt_of_le hi h.size) (fun x => by have := (ho.lt i x.symm).1; omega)).trans (h.block i hi hs)⟩
set_option maxRecDepth 100000 in
set_option maxHeartbeats 6400000 in
theorem rank_any (w0 w : World) (H : Nat) (sg : Int) (A R M X s6 g9 g10 rv : Value) (wt tk : Int) (rs : List (Int × Int × Int)) (cl : List Ac) (os : List ObD) (k : KerD)
    (hE : Eng w w0.heap.size H sg A R M X s6 g9 g10 rv wt tk rs) (hA : ActRow w w0.heap.size A (cl.map Ac.a)) (hC : Acts w0 w cl os k) (hb : Below w0.heap.size w0 w) (hn1 : 1 ≤ cl.length) (hn2 : cl.length ≤ 64) :
    Calls Tryz.prog 75 #[.pointer (some ⟨H, 0, none⟩)] w fun e w' => e = .returned (.tuple #[]) ∧ ∃ R' m d es n, Ranked w0 w w' H sg A X s6 g9 g10 rv wt tk rs os cl R' m d es n := by
  obtain ⟨i0, hi0, hz0, hz1, hz2⟩ := info_parts Tryz.infoPA
  have hmm := @run_makeMap Tryz.prog
  obtain ⟨n, hn⟩ : ∃ n, n = cl.length := ⟨_, rfl⟩
  have HN := hid hn
  have hlen : (cl.map Ac.a).length = n := by rw [List.length_map, hn]
  obtain ⟨gA, cA, rfl, _, gAl⟩ := World.ownsRow.form hA (by rw [hlen]; omega)
  have CC : Hid (Calls Tryz.prog 104 #[.slice (some ⟨gA, 0, none⟩) n cA] w fun e w' => ∃ v, e = .returned v ∧ ActRow w' w.heap.size v (cl.map Ac.a) ∧ Below w.heap.size w w') := hid (by have := clone_any w0.heap.size gA cA (cl.map Ac.a) w (by rw [hlen]; omega) hA; rw [hlen] at this; exact this)
  have HB : Hid (∀ i, ActAt w0 w (cl.getD (ixA cl.length i) ac0) (ixA cl.length i) (os.getD (ixA cl.length i) ob0) (k.leaf.getD (ixA cl.length i) 0) (k.vals.getD (ixA cl.length i) []) (k.qs.getD (ixA cl.length i) []) (k.ds.getD (ixA cl.length i) [])) := hid (fun i => hC.at_ _ (ixA_lt hn1 i))
  have HBW := hid hb
  rw [hlen] at hE
  have HE := hid hE
  obtain ⟨⟨_, c1, _, _, _⟩, _, _⟩ := eng_cells hE.o
  have hHl := lt_of_block hE.o
  have HL := hid hlen
  rw [← hn] at hn1 hn2
  clear hE hA hC hb hn hlen
  go_enter Tryz.func75, Tryz.ntmps75
  go_upto_region 1 with (go_at_call 104; go_loud (refine CC.out.mono ?_; rintro e w1 ⟨v, rfl, hv, hb1⟩; have hv' := act_own hv HL.out; obtain ⟨g, cg, rfl, hg1, hg2⟩ := World.ownsRow.form hv' (by omega); have V1 := hid hv'; have B1 := hid hb1; have E1 := hid (HE.out.below hb1); obtain ⟨⟨_, d1, d2, d3, _⟩, _, _⟩ := eng_cells E1.out.o; have f2 := froz E1.out.o 2; have hH1 := lt_of_block E1.out.o; clear hv hv' hb1))
  obtain ⟨W1, hW1⟩ : ∃ W, W = w1.setCell ⟨H, 2, none⟩ (.slice (some ⟨g, 0, none⟩) n cg) := ⟨_, rfl⟩
  have E2 : Hid (Eng W1 w0.heap.size H sg (.slice (some ⟨gA, 0, none⟩) n cA) (.slice (some ⟨g, 0, none⟩) n cg) M X s6 g9 g10 rv wt tk rs) := hid (by rw [hW1]; exact (eng_set E1.out _).1)
  have TW1 : Hid (Tn (· = H) w W1) := hid (by rw [hW1]; exact (Tn.of_below B1.out).trans (Tn.one _))
  have hgH : ¬ g = H := by omega
  obtain ⟨cur, hcur⟩ : ∃ cur, w1.heap[g]? = some (.cells cur 146 (0, 0)) := by
    rcases V1.out.2 with ⟨h0, _⟩ | ⟨g', cap', cur, h1, _, h3, _⟩
    · cases h0
    · simp only [Value.slice.injEq, Option.some.injEq, Addr.mk.injEq] at h1
      obtain ⟨⟨rfl, _⟩, _⟩ := h1
      exact ⟨cur, h3⟩
  have hcur1 : W1.heap[g]? = some (.cells cur 146 (0, 0)) := by rw [hW1]; exact (Below.heap_setCell _ _ _ _ hgH).trans hcur
  have SZ1 : w.heap.size ≤ W1.heap.size := TW1.out.size
  have cellP : Hid (∀ i, W1.cell? ⟨aA cl i, 1, none⟩ = some (.int .i64 (pA os cl i)) ∧ ¬ aA cl i = g) := hid (fun i => by
    obtain ⟨cs, b1, b2⟩ := (HB.out i).bx
    have hl := lt_of_block b1
    have hne : ¬ (cl.getD (ixA cl.length i) ac0).a = H := tag_ne b1 HE.out.o (by decide)
    obtain ⟨⟨_, x1, _⟩, _, _⟩ := b2.cells (TW1.out.at b1 hne)
    exact ⟨x1, by show ¬ (cl.getD (ixA cl.length i) ac0).a = g; omega⟩)
  have hold : Holds (encA (aA cl)) W1 g 0 (Array.range n) := by
    intro j hj
    rw [Array.size_range] at hj
    have c0 := World.ownsRow.cellAt V1.out j (by omega)
    have hjc : j < cl.length := by rw [← HN.out]; exact hj
    rw [show ((cl.map Ac.a).map (fun a => Value.pointer (some ⟨a, 0, none⟩)))[j]? = some (.pointer (some ⟨(cl.getD j ac0).a, 0, none⟩)) by simp [List.getD_eq_getElem?_getD, hjc]] at c0
    have e1 : (Array.range n)[j]! = j := by simp [hj]
    have e2 : encA (aA cl) j = .pointer (some ⟨(cl.getD j ac0).a, 0, none⟩) := by simp [encA, aA, ixA, hjc]
    refine ⟨?_, ?_⟩
    · rw [e1, e2, Nat.zero_add, hW1]
      exact (cell_same (Below.heap_setCell _ _ _ _ hgH) j).trans c0
    · rw [Nat.zero_add]; exact froz hcur1 j
  have HH := hid hold
  have CS := hid (sort_any (aA cl) (pA os cl) g 0 cg (Array.range n) W1 cellP.out hold (lt_of_block hcur1) (by rw [Array.size_range]; omega))
  rw [Array.size_range] at CS
  rw [← hW1]
  have hgl := lt_of_block hcur1
  have HCU := hid hcur1
  clear d1 d2 d3 f2 hH1 c1 hold hcur hcur1
  obtain ⟨⟨_, d1, d2, d3, _⟩, _, _⟩ := eng_cells E2.out.o
  have hH1 := lt_of_block E2.out.o
  clear hW1
  go_upto_region 2 with (go_at_call 105; refine CS.out.mono ?_; rintro e w2 ⟨rfl, dd, nn, oo, hp, hs, hw2⟩; have PP := hid hp; have SS := hid hs; have T2 : Hid (Tn (· = g) W1 w2) := hid (by rw [hw2]; exact tn_sort _ _ _ _ _ _ _); have H2 : Hid (Holds (encA (aA cl)) w2 g 0 dd) := hid (by rw [hw2]; exact holds_sortWorld _ _ _ _ _ _ _ _ hgl HH.out hp.1); have E3 := hid (E2.out.tn T2.out (fun e => hgH e.symm) (fun b e1 e2 => own_far2 E2.out.r (by decide) HCU.out (by rw [e1, e2]))); have hdz : Hid (dd.size = n) := hid (by rw [hp.1, Array.size_range]); clear d1 d2 d3 hp hs hw2; obtain ⟨⟨_, d1, d2, d3, _⟩, _, _⟩ := eng_cells E3.out.o; have f3 := froz E3.out.o 3; have hH2 := lt_of_block E3.out.o)
  go_upto_region 3 with fail
  obtain ⟨W3, hW3⟩ : ∃ W, W = (w2.setCell ⟨H, 3, none⟩ (.map (some w2.heap.size))).alloc (.map #[] 0) := ⟨_, rfl⟩
  obtain ⟨m, hm⟩ : ∃ m, m = w2.heap.size := ⟨_, rfl⟩
  have hal := below1 (w2.setCell ⟨H, 3, none⟩ (.map (some w2.heap.size))) (.map #[] 0)
  have hmH : ¬ m = H := by omega
  have hgl2 : g < w2.heap.size := Nat.lt_of_lt_of_le hgl T2.out.size
  have hmg : ¬ g = m := by omega
  have hgm : g < m := by omega
  have E4 : Hid (Eng W3 w0.heap.size H sg (.slice (some ⟨gA, 0, none⟩) n cA) (.slice (some ⟨g, 0, none⟩) n cg) (.map (some m)) X s6 g9 g10 rv wt tk rs) := hid (by rw [hW3, hm]; exact ((eng_set E3.out _).2.1).below hal)
  have hwm : w.heap.size ≤ m := by rw [hm]; exact Nat.le_trans SZ1 T2.out.size
  have T3 : Hid (Tn (· = H) w W3) := hid (by
    rw [hW3]
    refine Tn.trans (b := w2) ?_ ((Tn.one _).trans (Tn.of_below hal))
    have t1 := TW1.out
    have t2 := T2.out
    exact ⟨t2.os.trans t1.os, t2.tape.trans t1.tape, t2.output.trans t1.output, Nat.le_trans t1.size t2.size, fun i hi hne => (t2.block i (Nat.lt_of_lt_of_le hi t1.size) (by omega)).trans (t1.block i hi hne)⟩)
  have S3 : Hid (SubE W3 W3.heap.size m #[] 0 (rankF [])) := hid (sub_start (by have h := (MapKept.heap_alloc (w2.setCell ⟨H, 3, none⟩ (.map (some w2.heap.size))) (.map #[] 0)).1; rw [World.size_setCell] at h; rw [hW3, hm]; exact h))
  have H3 : Hid (∀ j, j < n → W3.cell? ⟨g, j, none⟩ = some (.pointer (some ⟨aA cl dd[j]!, 0, none⟩))) := hid (fun j hj => by
    have h1 := (H2.out j (by rw [hdz.out]; exact hj)).1
    rw [Nat.zero_add] at h1
    rw [hW3, hal.cell (p := ⟨g, j, none⟩) (by simpa using hgl2), cell_same (Below.heap_setCell _ _ _ _ hgH) j]
    exact h1)
  rw [← hW3, ← hm]
  have SZ3 : m < W3.heap.size := by rw [hW3, hm]; simp
  clear hW3 hm d1 d2 d3 f3
  obtain ⟨⟨_, d1, d2, d3, _⟩, _, _⟩ := eng_cells E4.out.o
  have hH3 := lt_of_block E4.out.o
  have HSZ := hid SZ3
  -- what stays in the loops
  have KE : Hid (∀ Y, Tn (· = m) W3 Y → Eng Y w0.heap.size H sg (.slice (some ⟨gA, 0, none⟩) n cA) (.slice (some ⟨g, 0, none⟩) n cg) (.map (some m)) X s6 g9 g10 rv wt tk rs) := hid (fun Y t => E4.out.tn t (fun e => hmH e.symm) (fun b e1 e2 => by
    rcases E4.out.r.2 with ⟨h0, _⟩ | ⟨q, cap', cur', h1, _, h3, _⟩
    · rw [h0] at e1; cases e1
    · rw [h1] at e1
      simp [Value.ownBlock] at e1
      subst e1 e2
      have := S3.out.hm
      rw [h3] at this
      cases this))
  have KG : Hid (∀ Y, Tn (· = m) W3 Y → ∀ j, j < n → Y.cell? ⟨g, j, none⟩ = some (.pointer (some ⟨aA cl dd[j]!, 0, none⟩))) := hid (fun Y t j hj => (cell_same (t.block g (Nat.lt_trans (by omega) HSZ.out) hmg) j).trans (H3.out j hj))
  have KA : Hid (∀ Y, Tn (· = m) W3 Y → ∀ i, Y.cell? ⟨aA cl i, 6, none⟩ = some (.slice (cl.getD (ixA cl.length i) ac0).uo (cl.getD (ixA cl.length i) ac0).un (cl.getD (ixA cl.length i) ac0).uc) ∧ aA cl i < Y.heap.size) := hid (fun Y t i => by
    obtain ⟨cs, b1, b2⟩ := (HB.out i).bx
    have hl := lt_of_block b1
    have hne : ¬ (cl.getD (ixA cl.length i) ac0).a = H := tag_ne b1 HE.out.o (by decide)
    have b3 := t.at (T3.out.at b1 hne) (by omega)
    obtain ⟨⟨_, _, x6⟩, _, _⟩ := b2.cells b3
    exact ⟨x6, lt_of_block b3⟩)
  have KU : Hid (∀ Y, Tn (· = m) W3 Y → ∀ i, SliceOf Y (cl.getD (ixA cl.length i) ac0).uo (cl.getD (ixA cl.length i) ac0).un (os.getD (ixA cl.length i) ob0).subs ∧ (cl.getD (ixA cl.length i) ac0).un ≤ 1048576) := hid (fun Y t i => by
    refine ⟨(HB.out i).us.below ?_, (HB.out i).vn.2⟩
    have hw := HBW.out
    have b1 := T3.out.below (B := w0.heap.size) hw.size (fun i e => by have := HE.out.hH; omega)
    have b2 := t.below (B := w0.heap.size) (Nat.le_trans hw.size T3.out.size) (fun i e => by have := hw.size; omega)
    exact (hw.trans b1).trans b2)
  clear E1 E2 E3 H2 H3 HH HCU HB
  go_wp2_with fail
  go_loopg [3, 28] n (fun mm s3 ix wr => ∃ (j : Nat) (es : Array MapEntry) (ct : Nat), j ≤ n ∧ mm = n - j ∧ ix = .int .i64 j ∧ Hid (SubE wr W3.heap.size m es ct (rankF ((lstA os cl dd).take j))) ∧ Hid (Tn (· = m) W3 wr))
  case atStart => exact ⟨0, _, _, Nat.zero_le _, by omega, rfl, hid (by simpa using S3.out), hid (Tn.refl _ _)⟩
  case round =>
    obtain ⟨j, es, ct, hj, rfl, rfl, HS, HT⟩ := hrel
    clear d1 d2 d3
    by_cases hlt : j < n
    · have hlt' : (j : Int) < (n : Int) := by omega
      have cg1 := KG.out wr HT.out j hlt
      have gl1 : g < wr.heap.size := by have := HT.out.size; have := HSZ.out; omega
      obtain ⟨a, ha⟩ : ∃ a, a = aA cl dd[j]! := ⟨_, rfl⟩
      obtain ⟨c, hc⟩ : ∃ c, c = cl.getD (ixA cl.length dd[j]!) ac0 := ⟨_, rfl⟩
      obtain ⟨us, hus⟩ : ∃ us, us = (os.getD (ixA cl.length dd[j]!) ob0).subs := ⟨_, rfl⟩
      have KA1 : Hid (∀ Y, Tn (· = m) W3 Y → Y.cell? ⟨a, 6, none⟩ = some (.slice c.uo c.un c.uc) ∧ a < Y.heap.size) := hid (fun Y t => by rw [ha, hc]; exact KA.out Y t _)
      have KU1 : Hid (∀ Y, Tn (· = m) W3 Y → SliceOf Y c.uo c.un us ∧ c.un ≤ 1048576) := hid (fun Y t => by rw [hc, hus]; exact KU.out Y t _)
      have LG : Hid ((lstA os cl dd)[j]? = some (a, us)) := hid (by rw [ha, hus]; exact lst_get (by rw [hdz.out]; exact hlt))
      rw [← ha] at cg1
      clear hc
      obtain ⟨_, _, _, _, _, _, _, uo, un, uc, _, _, _⟩ := c
      dsimp only at KA1 KU1
      obtain ⟨ca, al⟩ := KA1.out wr HT.out
      have LJ : Hid (((lstA os cl dd).take j).length ≤ 64 ∧ ∀ x ∈ (lstA os cl dd).take j, x.2.length ≤ 1048576) := hid (by
        refine ⟨by rw [List.length_take]; omega, fun x hx => ?_⟩
        obtain ⟨i, hi⟩ := List.getElem?_of_mem (List.mem_of_mem_take hx)
        have hil : i < dd.size := by rw [← lst_len os cl dd]; exact (List.getElem?_eq_some_iff.1 hi).1
        rw [lst_get hil] at hi
        simp only [Option.some.injEq] at hi
        rw [← hi]
        have k := KU.out W3 (Tn.refl _ _) dd[i]!
        rw [k.1.1]
        exact k.2)
      obtain ⟨f0, hf0⟩ : ∃ f0, f0 = rankF ((lstA os cl dd).take j) := ⟨_, rfl⟩
      have F0 : Hid (∀ z, (f0 z).length ≤ 64 * 1048576) := hid (fun z => by rw [hf0]; have h := rankF_len z ((lstA os cl dd).take j) (fun _ => []) 0 LJ.out.2 (by simp); have h2 := LJ.out.1; have : (rankF ((lstA os cl dd).take j) z).length ≤ 0 + ((lstA os cl dd).take j).length * 1048576 := h; omega)
      have HF0 := hid hf0
      rw [← hf0] at HS
      have ul := (KU1.out wr HT.out).2
      clear hf0 ha hus
      go_wp2_with fail
      clear ca al cg1 gl1
      go_loopg [5, 38] un (fun mm s5 ix wy => ∃ (t : Nat) (es : Array MapEntry) (ct : Nat), t ≤ un ∧ mm = un - t ∧ ix = .int .i64 t ∧ Hid (SubE wy W3.heap.size m es ct (subsF f0 a (us.take t))) ∧ Hid (Tn (· = m) W3 wy))
      case atStart => exact ⟨0, es, ct, Nat.zero_le _, by omega, rfl, hid (by simpa [subsF] using HS.out), HT⟩
      case round =>
        clear HS HT es ct
        obtain ⟨t, es, ct, ht, rfl, rfl, HS, HT⟩ := hrel
        by_cases hlt2 : t < un
        · have hlt2' : (t : Int) < (un : Int) := by omega
          obtain ⟨hul, hu2⟩ := (KU1.out _ HT.out).1
          obtain ⟨b, off, rfl, hbl, hbc⟩ := hu2 (by omega)
          have cz := hbc t hlt2
          obtain ⟨z, hz⟩ : ∃ z, z = us.getD t 0 := ⟨_, rfl⟩
          rw [← hz] at cz
          have htl : t < us.length := by omega
          have TK := hid (take_snocA 0 htl)
          rw [← hz] at TK
          obtain ⟨f, hf⟩ : ∃ f, f = subsF f0 a (us.take t) := ⟨_, rfl⟩
          have FL : Hid ((f z).length ≤ 64 * 1048576 + 1048576) := hid (by rw [hf]; have h1 := subsF_len a z (us.take t) f0; have h2 := F0.out z; rw [List.length_take] at h1; omega)
          have FN : Hid (addS f z a = subsF f0 a (us.take (t + 1))) := hid (by rw [TK.out, subsF_snoc, hf])
          rw [← hf] at HS
          obtain ⟨v, FD⟩ := sub_find HS.out z
          obtain ⟨vo, vc, rfl⟩ := own_any FD.row
          obtain ⟨q, hq⟩ : ∃ q, q = (f z).length := ⟨_, rfl⟩
          rw [← hq] at FD
          have RV := hid FD.row
          have QL : q ≤ 64 * 1048576 + 1048576 := by rw [hq]; exact FL.out
          have HFD := hid FD
          have HQ := hid hq
          obtain ⟨O, hO⟩ : ∃ O : Obj, O = .cells #[.pointer (some ⟨a, 0, none⟩)] 146 := ⟨_, rfl⟩
          have lk1 := FD.look wr.drew HS.out.hm
          have lk2 := FD.look (wr.alloc (.cells #[.pointer (some ⟨a, 0, none⟩)] 146)).drew ((below1 wr _).block m (Array.getElem?_eq_some_iff.1 HS.out.hm).1 |>.trans HS.out.hm)
          have SA := hid (HS.out.below ((below1 wr (.cells #[.pointer (some ⟨a, 0, none⟩)] 146)).drew))
          have OA : Hid ((wr.alloc (.cells #[.pointer (some ⟨a, 0, none⟩)] 146)).drew.ownsRow W3.heap.size 146 1 (.slice vo q vc) q ((f z).map (fun a => Value.pointer (some ⟨a, 0, none⟩)))) := hid (act_own (ownsRow_below RV.out ((below1 wr (.cells #[.pointer (some ⟨a, 0, none⟩)] 146)).drew)) hq.symm)
          have NW := hid (World.news_of_block (show (wr.alloc (.cells #[.pointer (some ⟨a, 0, none⟩)] 146)).drew.heap[wr.heap.size]? = some (.cells #[.pointer (some ⟨a, 0, none⟩)] 146 (0, 0)) from heap_alloc_new wr _))
          have SZ : Hid (W3.heap.size ≤ (wr.alloc (.cells #[.pointer (some ⟨a, 0, none⟩)] 146)).drew.heap.size) := hid (Nat.le_trans HT.out.size (below1 wr _).size)
          obtain ⟨⟨_, d1, d2, d3, _⟩, _, _⟩ := eng_cells (KE.out _ HT.out).o
          have hHy := lt_of_block (KE.out _ HT.out).o
          clear FD hq hf hz hbc hu2 hO hul
          go_upto_region 9 with fail
          go_region_law
            (first
              | (refine step_append_lies _ (by rfl) _ _ _ (by rfl) W3.heap.size 146 i0 _ 1 8 Tryz.underlying80 hi0 hz0 hz1 hz2 rfl (by omega) (.slice vo q vc) q ((f z).map (fun a => Value.pointer (some ⟨a, 0, none⟩))) (by simp [Act.eval]) OA.out ⟨wr.heap.size, 0, none⟩ 1 1 [.pointer (some ⟨a, 0, none⟩)] (by simp [Act.eval]) rfl NW.out (one_u _ rfl) (by omega) (by unfold maxLen; omega) (by omega) SZ.out (wr.heap.size + 1) (by simp) ?_; intro g5 cap5 w5 hown hgrow hat hlt5; obtain ⟨Y2, es2, n2, hput, hsub, htn⟩ := HFD.out.put (wr.alloc (.cells #[.pointer (some ⟨a, 0, none⟩)] 146)).drew w5 g5 (q + 1) cap5 a SA.out hgrow (by simpa using hat) (act_row (by rw [List.length_append, ← HQ.out, List.length_singleton]) (by rw [List.map_append]; exact hown)); have bH : w5.heap[H]? = _ := (hgrow.block H (Nat.lt_of_lt_of_le hHy (below1 wr _).size) (fun x => own_far2 OA.out (by decide) (block_below (KE.out _ HT.out).o ((below1 wr (.cells #[.pointer (some ⟨a, 0, none⟩)] 146)).drew)) x.symm)).trans (block_below (KE.out _ HT.out).o ((below1 wr (.cells #[.pointer (some ⟨a, 0, none⟩)] 146)).drew)); obtain ⟨⟨_, _, _, x3, _⟩, _, _⟩ := eng_cells bH; have SB := hid hsub; have TB : Hid (Tn (· = m) W3 Y2) := hid ((tn_grow (HT.out.trans (Tn.of_below ((below1 wr (.cells #[.pointer (some ⟨a, 0, none⟩)] 146)).drew))) OA.out hgrow).trans htn); clear hown hgrow hat hsub htn bH))
          all_goals
            go_wp2_with fail
            go_roundg (un - (t + 1))
            case measure => omega
            case rel => exact ⟨t + 1, es2, n2, hlt2, rfl, by go_num, hid (by rw [← FN.out]; exact SB.out), TB⟩
        · have et : t = un := by omega
          have nlt2 : ¬ (t : Int) < (un : Int) := by omega
          have SJ : Hid (SubE wr W3.heap.size m es ct (rankF ((lstA os cl dd).take (j + 1)))) := hid (by
            have h := HS.out
            have hu := (KU1.out wr HT.out).1.1
            rw [et, take_all hu] at h
            have lg := LG.out
            rw [show (lstA os cl dd).take (j + 1) = (lstA os cl dd).take j ++ [(a, us)] by rw [List.take_add_one, lg]; rfl, rankF_snoc, ← HF0.out]
            exact h)
          clear et
          go_wp2_with fail
          go_roundg (n - (j + 1))
          case measure => omega
          case rel => exact ⟨j + 1, es, ct, hlt, rfl, by go_num, SJ, HT⟩
    · have ej : j = n := by omega
      have nlt : ¬ (j : Int) < (n : Int) := by omega
      have SJ : Hid (SubE wr W3.heap.size m es ct (rankF (lstA os cl dd))) := hid (by have h := HS.out; rw [ej, take_all (by rw [lst_len, hdz.out])] at h; exact h)
      clear ej
      go_wp2_with fail
      go_end0
      exact ⟨rfl, _, m, dd, es, ct, ⟨by have := PP.out; rw [HN.out] at this; exact this, by have := SS.out; rw [HN.out] at this; exact this, SJ.out.base T3.out.size, by have h := KE.out _ HT.out; rw [HN.out] at h; exact h, by
        have t1 := T3.out
        have t2 := HT.out
        exact ⟨t2.os.trans t1.os, t2.tape.trans t1.tape, t2.output.trans t1.output, Nat.le_trans t1.size t2.size, fun i hi hne => (t2.block i (Nat.lt_of_lt_of_le hi t1.size) (by omega)).trans (t1.block i hi hne)⟩⟩⟩
end Go.Proofs.YthaklmdhkkfigaaGreat

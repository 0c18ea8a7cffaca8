import Derived.Test.YthaklmdhkkfigaaGreatXf
import Derived.Test.YthaklmdhkkfigaaGreatYc
import Derived.MapKept
namespace Go.Proofs.YthaklmdhkkfigaaGreat
open Go.RowKit Go.Sort
set_option linter.unusedVariables false

/-- What the map of subscribers holds. -/
structure SubE (W : World) (B m : Nat) (es : Array MapEntry) (n : Nat) (f : Int → List Nat) : Prop where
  hm : W.heap[m]? = some (.map es n)
  key : ∀ x ∈ es.toList, MapKept.IsKey (.int .i64) x.key
  row : ∀ (j : Nat) x z, es[j]? = some x → x.key = .int .i64 z → ActRow W B x.val (f z)
  far : ∀ (i j : Nat) x y, i ≠ j → es[i]? = some x → es[j]? = some y → x.key ≠ y.key ∧ Ap x.val y.val
  non : ∀ z, (∀ x ∈ es.toList, x.key ≠ .int .i64 z) → f z = []
/-- One subscriber more. -/
def addS (f : Int → List Nat) (z : Int) (a : Nat) : Int → List Nat := fun y => if y = z then f y ++ [a] else f y
def subsF (f : Int → List Nat) (a : Nat) (us : List Int) : Int → List Nat := us.foldl (fun f z => addS f z a) f
def rankF (l : List (Nat × List Int)) : Int → List Nat := l.foldl (fun f x => subsF f x.1 x.2) (fun _ => [])
theorem subsF_snoc (f : Int → List Nat) (a : Nat) (us : List Int) (z : Int) : subsF f a (us ++ [z]) = addS (subsF f a us) z a := by unfold subsF; rw [List.foldl_append]; rfl
theorem rankF_snoc (l : List (Nat × List Int)) (x : Nat × List Int) : rankF (l ++ [x]) = subsF (rankF l) x.1 x.2 := by unfold rankF; rw [List.foldl_append]; rfl
theorem addS_len (f : Int → List Nat) (z : Int) (a : Nat) (y : Int) : (addS f z a y).length ≤ (f y).length + 1 := by unfold addS; split <;> simp
theorem SubE.below {W Y : World} {B m : Nat} {es : Array MapEntry} {n : Nat} {f : Int → List Nat} (h : SubE W B m es n f) (hb : Below W.heap.size W Y) : SubE Y B m es n f :=
  ⟨(hb.block m (Array.getElem?_eq_some_iff.1 h.hm).1).trans h.hm, h.key, fun j x z h1 h2 => ownsRow_below (h.row j x z h1 h2) hb, h.far, h.non⟩
theorem SubE.base {W : World} {B C m : Nat} {es : Array MapEntry} {n : Nat} {f : Int → List Nat} (h : SubE W B m es n f) (hb : C ≤ B) : SubE W C m es n f := ⟨h.hm, h.key, fun j x z h1 h2 => row_base (h.row j x z h1 h2) hb, h.far, h.non⟩
theorem key_int {v : Value} (h : MapKept.IsKey (.int .i64) v) : ∃ z, v = .int .i64 z := by
  cases v <;> simp_all [MapKept.IsKey]
theorem chk_int (em : Bool) (a : Int) (w : World) : (Instr.checkKey em 10000 3 (.int .i64 a)).run Tryz.prog w = .ok () w := MapKept.run_checkKey (d := .int .i64) Tryz.underlying3 (by simp [MapKept.IsKey]) em 9999
/-- What is found under a signal; what a store there leaves. -/
structure Found (W : World) (B m : Nat) (es : Array MapEntry) (n : Nat) (f : Int → List Nat) (z : Int) (v : Value) : Prop where
  row : ActRow W B v (f z)
  look : ∀ Y, Y.heap[m]? = some (.map es n) → (Instr.lookup 81 (.map (some m)) (.int .i64 z) false).run Tryz.prog Y = .ok v Y
  put : ∀ (X Y : World) (g k cap a : Nat), SubE X B m es n f → X.grownBy Y v.ownBlock → (v.ownBlock = some g ∨ g = X.heap.size) → ActRow Y B (.slice (some ⟨g, 0, none⟩) k cap) (f z ++ [a]) →
    ∃ Y2 es2 n2, (Instr.mapUpdate 81 (.map (some m)) (.int .i64 z) (.slice (some ⟨g, 0, none⟩) k cap)).run Tryz.prog Y = .ok () Y2 ∧ SubE Y2 B m es2 n2 (addS f z a) ∧ Tn (· = m) Y Y2
theorem act_map {W : World} {B m : Nat} {es : Array MapEntry} {n k : Nat} {v : Value} {xs : List Value} (hm : W.heap[m]? = some (.map es n)) (h : W.ownsRow B 146 1 v k xs) : v.ownBlock ≠ some m := by
  intro e
  rcases h.2 with ⟨h0, _⟩ | ⟨g, cap, cur, h1, h2, h3, _⟩
  · rw [h0] at e; cases e
  · rw [h1] at e
    simp [Value.ownBlock] at e
    subst e
    rw [hm] at h3
    cases h3
theorem tn_map {W : World} {m : Nat} {o o' : Obj} (hm : W.heap[m]? = some o) : Tn (· = m) W { W with heap := W.heap.setIfInBounds m o' } := ⟨rfl, rfl, rfl, by simp, fun b _ h => (MapKept.heap_set hm).2 b h⟩
theorem sub_find {W : World} {B m : Nat} {es : Array MapEntry} {n : Nat} {f : Int → List Nat} (h : SubE W B m es n f) (z : Int) : ∃ v, Found W B m es n f z v := by
  have hk : MapKept.IsKey (.int .i64) (.int .i64 z) := by simp [MapKept.IsKey]
  rcases MapKept.findNow_spec hk es.toList 0 h.key with ⟨h1, h2⟩ | ⟨j, e, h1, h2, h3⟩
  · have hz : f z = [] := h.non z h2
    refine ⟨.slice none 0 0, ?_, ?_, ?_⟩
    · rw [hz]; exact World.ownsRow_nil _ _ _ _
    · intro Y hb
      have hf := MapKept.run_findKey (P := Tryz.prog) (w := Y) (kt := 3) Tryz.underlying3 h1
      have hzv : (zeroValue 80).run Tryz.prog Y = .ok (.slice none 0 0) Y := by kernel_rfl
      simp [Instr.lookup, run_underlying Tryz.underlying81, MapKept.run_getObj_map hb, chk_int, hf, hzv, Result.andThen]
    · intro X Y g k cap a hX hg hat hr
      have hb : Y.heap[m]? = some (.map es n) := (hg.block m (Array.getElem?_eq_some_iff.1 hX.hm).1 (fun x => by simp [Value.ownBlock] at x)).trans hX.hm
      have hf := MapKept.run_findKey (P := Tryz.prog) (w := Y) (kt := 3) Tryz.underlying3 h1
      refine ⟨{ Y with heap := Y.heap.setIfInBounds m (.map (es.push { key := .int .i64 z, val := .slice (some ⟨g, 0, none⟩) k cap, born := n }) (n + 1)) }, es.push { key := .int .i64 z, val := .slice (some ⟨g, 0, none⟩) k cap, born := n }, n + 1, ?_, ?_, tn_map hb⟩
      · simp [Instr.mapUpdate, run_underlying Tryz.underlying81, MapKept.run_getObj_map hb, chk_int, hf, MapKept.run_setObj_map _ hb, Result.andThen]
      · have tn := tn_map (o' := .map (es.push { key := .int .i64 z, val := .slice (some ⟨g, 0, none⟩) k cap, born := n }) (n + 1)) hb
        have gN : g = X.heap.size := by
          rcases hat with e | e
          · simp [Value.ownBlock] at e
          · exact e
        have keepR : ∀ {v' : Value} {l : List Nat}, ActRow Y B v' l → ActRow { Y with heap := Y.heap.setIfInBounds m (.map (es.push { key := .int .i64 z, val := .slice (some ⟨g, 0, none⟩) k cap, born := n }) (n + 1)) } B v' l := fun {v' l} ho => row_same ho (fun b hb' e => tn.block b hb' (fun x => act_map hb ho (by rw [e, x])))
        have old : ∀ (j : Nat) x y, es[j]? = some x → x.key = .int .i64 y → ActRow Y B x.val (f y) := fun j x y h5 h6 => row_same (hX.row j x y h5 h6) (fun b hb' e => hg.block b hb' (fun x => by simp [Value.ownBlock] at x))
        refine ⟨(MapKept.heap_set hb).1, ?_, ?_, ?_, ?_⟩
        · intro x hx
          simp only [Array.toList_push, List.mem_append, List.mem_singleton] at hx
          rcases hx with hx | rfl
          · exact h.key x hx
          · exact hk
        · intro j x y hj hy
          rw [Array.getElem?_push] at hj
          split at hj
          · simp at hj
            subst hj
            simp at hy
            subst hy
            unfold addS
            rw [if_pos rfl]
            exact keepR hr
          · have ne : ¬ y = z := by
              rintro rfl
              exact h2 x (by rw [← Array.getElem?_toList] at hj; exact List.mem_of_getElem? hj) hy
            unfold addS
            rw [if_neg ne]
            exact keepR (old j x y hj hy)
        · intro i j x y hij hi hj
          rw [Array.getElem?_push] at hi hj
          have fresh : ∀ (j : Nat) x, es[j]? = some x → x.key ≠ .int .i64 z ∧ ∀ b, x.val.ownBlock = some b → b < X.heap.size := by
            intro j x hj
            have hmem : x ∈ es.toList := by rw [← Array.getElem?_toList] at hj; exact List.mem_of_getElem? hj
            obtain ⟨y, hy⟩ := key_int (h.key x hmem)
            exact ⟨h2 x hmem, fun b hb' => ((hX.row j x y hj hy).lt b hb').2⟩
          split at hi
          · split at hj
            · omega
            · simp at hi
              subst hi
              obtain ⟨k1, k2⟩ := fresh j y hj
              refine ⟨fun e => k1 e.symm, fun b e1 e2 => ?_⟩
              simp [Value.ownBlock] at e1
              have := k2 b e2
              omega
          · split at hj
            · simp at hj
              subst hj
              obtain ⟨k1, k2⟩ := fresh i x hi
              refine ⟨k1, fun b e1 e2 => ?_⟩
              simp [Value.ownBlock] at e2
              have := k2 b e1
              omega
            · exact h.far i j x y hij hi hj
        · intro y hy
          have ne : ¬ y = z := by
            rintro rfl
            exact hy { key := .int .i64 y, val := .slice (some ⟨g, 0, none⟩) k cap, born := n } (by simp) rfl
          unfold addS
          rw [if_neg ne]
          exact h.non y (fun x hx => hy x (by simp only [Array.toList_push, List.mem_append]; exact .inl hx))
  · have hj : es[j]? = some e := by simpa using h2
    rw [Nat.zero_add] at h1
    refine ⟨e.val, h.row j e z hj h3, ?_, ?_⟩
    · intro Y hb
      have hf := MapKept.run_findKey (P := Tryz.prog) (w := Y) (kt := 3) Tryz.underlying3 h1
      simp [Instr.lookup, run_underlying Tryz.underlying81, MapKept.run_getObj_map hb, chk_int, hf, Result.andThen]
    · intro X Y g k cap a hX hg hat hr
      have hb : Y.heap[m]? = some (.map es n) := (hg.block m (Array.getElem?_eq_some_iff.1 hX.hm).1 (fun x => act_map hX.hm (hX.row j e z hj h3) x.symm)).trans hX.hm
      have hf := MapKept.run_findKey (P := Tryz.prog) (w := Y) (kt := 3) Tryz.underlying3 h1
      refine ⟨{ Y with heap := Y.heap.setIfInBounds m (.map (es.modify j fun e => { e with key := .int .i64 z, val := .slice (some ⟨g, 0, none⟩) k cap }) n) }, es.modify j fun e => { e with key := .int .i64 z, val := .slice (some ⟨g, 0, none⟩) k cap }, n, ?_, ?_, tn_map hb⟩
      · simp [Instr.mapUpdate, run_underlying Tryz.underlying81, MapKept.run_getObj_map hb, chk_int, hf, hj, h3, MapKept.run_keyThatStays hk, MapKept.run_setObj_map _ hb, Result.andThen]
      · have tn := tn_map (o' := .map (es.modify j fun e => { e with key := .int .i64 z, val := .slice (some ⟨g, 0, none⟩) k cap }) n) hb
        have keepR : ∀ {v' : Value} {l : List Nat}, ActRow Y B v' l → ActRow { Y with heap := Y.heap.setIfInBounds m (.map (es.modify j fun e => { e with key := .int .i64 z, val := .slice (some ⟨g, 0, none⟩) k cap }) n) } B v' l := fun {v' l} ho => row_same ho (fun b hb' e => tn.block b hb' (fun x => act_map hb ho (by rw [e, x])))
        have old : ∀ (i : Nat) x y, i ≠ j → es[i]? = some x → x.key = .int .i64 y → ActRow Y B x.val (f y) := fun i x y hij h5 h6 => row_same (hX.row i x y h5 h6) (fun b hb' e' => hg.block b hb' (fun x' => (h.far i j x e hij h5 hj).2 b e' x'.symm))
        have at_ : ∀ (i : Nat) x, (es.modify j fun e => { e with key := .int .i64 z, val := .slice (some ⟨g, 0, none⟩) k cap })[i]? = some x → (i = j ∧ x.key = .int .i64 z ∧ x.val = .slice (some ⟨g, 0, none⟩) k cap) ∨ (i ≠ j ∧ es[i]? = some x) := by
          intro i x hi
          rw [Array.getElem?_modify] at hi
          split at hi
          · rename_i e1
            subst e1
            rw [hj] at hi
            simp at hi
            subst hi
            exact .inl ⟨rfl, rfl, rfl⟩
          · rename_i e1
            exact .inr ⟨fun x => e1 x.symm, hi⟩
        refine ⟨(MapKept.heap_set hb).1, MapKept.isKey_modify h.key _ _ (fun e' he' => by rw [hj] at he'; cases he'; exact h3.symm), ?_, ?_, ?_⟩
        · intro i x y hi hy
          rcases at_ i x hi with ⟨rfl, k1, k2⟩ | ⟨k1, k2⟩
          · rw [k1] at hy
            simp at hy
            subst hy
            unfold addS
            rw [if_pos rfl, k2]
            exact keepR hr
          · have ne : ¬ y = z := by
              rintro rfl
              exact (h.far i j x e k1 k2 hj).1 (hy.trans h3.symm)
            unfold addS
            rw [if_neg ne]
            exact keepR (old i x y k1 k2 hy)
        · have low : ∀ (i : Nat) x, i ≠ j → es[i]? = some x → x.key ≠ .int .i64 z ∧ ∀ b, x.val.ownBlock = some b → ¬ b = g := by
            intro i x hij hi
            have hmem : x ∈ es.toList := by rw [← Array.getElem?_toList] at hi; exact List.mem_of_getElem? hi
            obtain ⟨y, hy⟩ := key_int (h.key x hmem)
            refine ⟨fun e2 => (h.far i j x e hij hi hj).1 (e2.trans h3.symm), fun b hb' e2 => ?_⟩
            rcases hat with k1 | k1
            · exact (h.far i j x e hij hi hj).2 b hb' (by rw [e2]; exact k1)
            · have := ((hX.row i x y hi hy).lt b hb').2
              omega
          intro i i' x y hij hi hi'
          rcases at_ i x hi with ⟨rfl, k1, k2⟩ | ⟨k1, k2⟩
          · rcases at_ i' y hi' with ⟨rfl, l1, l2⟩ | ⟨l1, l2⟩
            · exact absurd rfl hij
            · obtain ⟨o1, o2⟩ := low i' y l1 l2
              refine ⟨fun e2 => o1 (e2.symm.trans k1), fun b e1 e2 => ?_⟩
              rw [k2] at e1
              simp [Value.ownBlock] at e1
              exact o2 b e2 e1.symm
          · rcases at_ i' y hi' with ⟨rfl, l1, l2⟩ | ⟨l1, l2⟩
            · obtain ⟨o1, o2⟩ := low i x k1 k2
              refine ⟨fun e2 => o1 (e2.trans l1), fun b e1 e2 => ?_⟩
              rw [l2] at e2
              simp [Value.ownBlock] at e2
              exact o2 b e1 e2.symm
            · exact h.far i i' x y hij k2 l2
        · intro y hy
          have hmem : e ∈ es.toList := by rw [← Array.getElem?_toList] at hj; exact List.mem_of_getElem? hj
          have ne : ¬ y = z := by
            rintro rfl
            have h5 : (es.modify j fun e => { e with key := .int .i64 y, val := .slice (some ⟨g, 0, none⟩) k cap })[j]? = some { e with key := .int .i64 y, val := .slice (some ⟨g, 0, none⟩) k cap } := by rw [Array.getElem?_modify, if_pos rfl, hj]; rfl
            exact hy _ (by rw [← Array.getElem?_toList] at h5; exact List.mem_of_getElem? h5) rfl
          unfold addS
          rw [if_neg ne]
          refine h.non y (fun x hx hxk => ?_)
          obtain ⟨i, hi⟩ := List.getElem?_of_mem hx
          rw [Array.getElem?_toList] at hi
          by_cases e1 : i = j
          · subst e1
            rw [hj] at hi
            cases hi
            exact ne (by rw [h3] at hxk; simp at hxk; exact hxk.symm)
          · have h5 : (es.modify j fun e => { e with key := .int .i64 z, val := .slice (some ⟨g, 0, none⟩) k cap })[i]? = some x := by rw [Array.getElem?_modify, if_neg (fun x => e1 x.symm)]; exact hi
            exact hy x (by rw [← Array.getElem?_toList] at h5; exact List.mem_of_getElem? h5) hxk
theorem act_own {w : World} {B n : Nat} {v : Value} {l : List Nat} (h : ActRow w B v l) (hn : l.length = n) : w.ownsRow B 146 1 v n (l.map (fun a => Value.pointer (some ⟨a, 0, none⟩))) := by subst hn; exact h
theorem act_row {w : World} {B n : Nat} {v : Value} {l : List Nat} (hn : l.length = n) (h : w.ownsRow B 146 1 v n (l.map (fun a => Value.pointer (some ⟨a, 0, none⟩)))) : ActRow w B v l := by subst hn; exact h
theorem sub_start {W : World} {B m : Nat} (h : W.heap[m]? = some (.map #[] 0)) : SubE W B m #[] 0 (fun _ => []) := ⟨h, fun x hx => by simp at hx, fun j x z hj => by simp at hj, fun i j x y _ hi => by simp at hi, fun _ _ => rfl⟩
end Go.Proofs.YthaklmdhkkfigaaGreat

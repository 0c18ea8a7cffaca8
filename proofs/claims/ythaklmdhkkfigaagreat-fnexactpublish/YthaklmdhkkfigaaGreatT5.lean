import Derived.Test.YthaklmdhkkfigaaGreatP2
import Derived.Test.YthaklmdhkkfigaaGreatT4
import Derived.Deep.DeepCutAuto
namespace Go.Proofs.YthaklmdhkkfigaaGreat
open Go.RowKit Go.Sort
set_option linter.unusedVariables false
attribute [local go_sem ↓] Go.wp_at_zero Go.wp_at_succ

theorem checkOf_code (ss : List StD) (ts : List TrD) (l : LimD) : 0 ≤ (checkOf ss ts l).1 ∧ (checkOf ss ts l).1 ≤ 6 := by
  unfold checkOf
  split
  · split
    · exact ⟨by simp, by simp⟩
    · split <;> exact ⟨by simp, by simp⟩
  · unfold faultOf
    split
    · split
      · exact ⟨by simp, by simp⟩
      · split
        · exact ⟨by simp, by simp⟩
        · split <;> exact ⟨by simp, by simp⟩
    · exact ⟨by simp, by simp⟩

def objOK (x : ObD) : Bool := betB x.prio 1 1000 && (betB x.qcap 1 1000 && (betB x.dcap 0 1000 && bankB x.kinds x.vals))
def samePr (os : List ObD) (i j : Nat) : Bool := decide ((os.getD j ob0).prio = (os.getD i ob0).prio)
def dupB (os : List ObD) (i : Nat) : Bool := (firstB (samePr os i) i).isSome
def sameSub (us : List Int) (k j : Nat) : Bool := decide (us.getD j 0 = us.getD k 0)
def badSub (sg : Int) (us : List Int) (k : Nat) : Bool := !(betB (us.getD k 0) 0 (sg - 1)) || (firstB (sameSub us k) k).isSome
/-- The limits of object i. -/
def limOf (sg : Int) (os : List ObD) (nt i : Nat) : LimD := ⟨(os.length : Int), sg, (nt : Int), ((os.getD i ob0).vals.length : Int)⟩
/-- The first fault of object i. -/
def objFault (sg : Int) (os : List ObD) (nt i : Nat) : Int × Int :=
  if objOK (os.getD i ob0) = true ∧ dupB os i = false then
    match firstB (badSub sg (os.getD i ob0).subs) (os.getD i ob0).subs.length with
    | some k => (3, (k : Int))
    | none => if (checkOf (os.getD i ob0).sts (os.getD i ob0).trs (limOf sg os nt i)).1 = 0 then (0, 0)
      else (10 + (checkOf (os.getD i ob0).sts (os.getD i ob0).trs (limOf sg os nt i)).1, (checkOf (os.getD i ob0).sts (os.getD i ob0).trs (limOf sg os nt i)).2)
  else (2, 0)
theorem dup_yes {os : List ObD} {i k : Nat} (hk : k < i) (h : samePr os i k = true) : dupB os i = true := by
  unfold dupB
  cases e : firstB (samePr os i) i with
  | some _ => rfl
  | none => have := firstB_none_iff e k hk; rw [h] at this; cases this
theorem dup_no {os : List ObD} {i : Nat} (h : ∀ j, j < i → samePr os i j = false) : dupB os i = false := by
  unfold dupB
  rw [firstB_none h]
  rfl
theorem obf_two {sg : Int} {os : List ObD} {nt i : Nat} (h : ¬ (objOK (os.getD i ob0) = true ∧ dupB os i = false)) : objFault sg os nt i = (2, 0) := if_neg h
theorem obf_three {sg : Int} {os : List ObD} {nt i k : Nat} (h : objOK (os.getD i ob0) = true ∧ dupB os i = false) (hk : k < (os.getD i ob0).subs.length) (h1 : badSub sg (os.getD i ob0).subs k = true) (h2 : ∀ j, j < k → badSub sg (os.getD i ob0).subs j = false) : objFault sg os nt i = (3, (k : Int)) := by
  unfold objFault
  rw [if_pos h, firstB_some hk h1 h2]
theorem obf_chart {sg : Int} {os : List ObD} {nt i : Nat} (h : objOK (os.getD i ob0) = true ∧ dupB os i = false) (h2 : ∀ j, j < (os.getD i ob0).subs.length → badSub sg (os.getD i ob0).subs j = false) :
    objFault sg os nt i = if (checkOf (os.getD i ob0).sts (os.getD i ob0).trs (limOf sg os nt i)).1 = 0 then (0, 0)
      else (10 + (checkOf (os.getD i ob0).sts (os.getD i ob0).trs (limOf sg os nt i)).1, (checkOf (os.getD i ob0).sts (os.getD i ob0).trs (limOf sg os nt i)).2) := by
  unfold objFault
  rw [if_pos h, firstB_none h2]
theorem badSub_out {sg : Int} {us : List Int} {k : Nat} (h : betB (us.getD k 0) 0 (sg - 1) = false) : badSub sg us k = true := by
  unfold badSub; rw [h]; rfl
theorem badSub_twice {sg : Int} {us : List Int} {k j : Nat} (hj : j < k) (h : sameSub us k j = true) : badSub sg us k = true := by
  unfold badSub
  cases e : firstB (sameSub us k) k with
  | some _ => simp
  | none => have := firstB_none_iff e j hj; rw [h] at this; cases this
theorem badSub_no {sg : Int} {us : List Int} {k : Nat} (h : betB (us.getD k 0) 0 (sg - 1) = true) (h2 : ∀ j, j < k → sameSub us k j = false) : badSub sg us k = false := by
  unfold badSub; rw [h, firstB_none h2]; rfl

/-- What stays of the boxes of a system and of an object. -/
structure OE (w wr : World) (s o : Array Value) : Prop where
  bel : Below w.heap.size w wr
  sy : wr.heap[w.heap.size]? = some (.cells s 42 (0, 0))
  ob : wr.heap[w.heap.size + 1]? = some (.cells o 134 (0, 0))
theorem OE.below {w wr w1 : World} {s o : Array Value} (h : OE w wr s o) (hb : Below wr.heap.size wr w1) : OE w w1 s o := ⟨h.bel.trans (hb.mono h.bel.size), block_below h.sy hb, block_below h.ob hb⟩
theorem OE.alloc {w wr : World} {s o : Array Value} (h : OE w wr s o) (x : Obj) : OE w (wr.alloc x) s o := h.below (below1 _ _)
theorem oe_start (w : World) (s o : Array Value) : OE w ((w.alloc (.cells s 42)).alloc (.cells o 134)) s o :=
  ⟨below2 _ _ _, block_below (heap_alloc_new w _) (below1 _ _), by simpa using heap_alloc_new (w.alloc (.cells s 42)) (.cells o 134)⟩

set_option maxRecDepth 100000 in
set_option maxHeartbeats 1600000 in
theorem l4Limits_any (sg : Int) (eo xo : Option Addr) (en ec xn xc : Nat) (os : List ObD) (i : Nat) (w : World) (hi : i < en) (hen : en ≤ 64) (hxn : xn ≤ 200) (he : ObsOf w eo en os) :
    Calls Tryz.prog 141 #[.agg #[.int .i64 sg, .slice eo en ec, .slice xo xn xc], .int .i64 (i : Int)] w fun e w' => e = .returned (.agg #[.int .i64 (en : Int), .int .i64 sg, .int .i64 (xn : Int), .int .i64 ((os.getD i ob0).vals.length : Int)]) ∧ Below w.heap.size w w' := by
  obtain ⟨b, off, rfl, hbl, hc⟩ := he.2 (by omega)
  obtain ⟨h, hcs, hmx, hof⟩ := hc i hi
  have ev := hof.hv.1
  obtain ⟨k0, k1, k2, k3, k4, k5, k6, k7⟩ := hcs.below hbl (below2 w (.cells #[.int .i64 sg, .slice (some ⟨b, off, none⟩) en ec, .slice xo xn xc] 42) (.cells #[.int .i64 0, .int .i64 0, .int .i64 0, .int .i64 0] 148))
  obtain ⟨ko, kn, kc, vo, vn, vc, uo, un, uc, so, sn, sc, tt, tn, tc⟩ := h
  have mv : vn ≤ 9223372036854775807 := hmx.hv
  have ii : (i : Int) < (en : Int) := by omega
  dsimp only at k4 ev
  rw [ev]
  clear he hc hcs hmx hof ev k0 k1 k2 k3 k5 k6 k7
  go_enter Tryz.func141, Tryz.ntmps141
  go_wp2
  go_region
  all_goals
    go_wp2
    refine bodyPost_ret (v := .agg #[.int .i64 (en : Int), .int .i64 sg, .int .i64 (xn : Int), .int .i64 (vn : Int)]) (by simp [results, Tryz.results141, go_sem]) rfl ⟨rfl, ?_⟩
    first | exact (below2 _ _ _) | exact (below2 _ _ _).drew
end Go.Proofs.YthaklmdhkkfigaaGreat

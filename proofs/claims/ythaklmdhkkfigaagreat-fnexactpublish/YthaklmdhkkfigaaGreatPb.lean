import Derived.Test.YthaklmdhkkfigaaGreatTa
import Derived.Test.YthaklmdhkkfigaaGreatZd
namespace Go.Proofs.YthaklmdhkkfigaaGreat
open Go.RowKit Go.Sort
set_option linter.unusedVariables false

/-- Does an object take a signal? -/
def onB (os : List ObD) (z : Int) (i : Nat) : Bool := (os.getD i ob0).subs.contains z
/-- Who takes a signal at one level. -/
def lvl (os : List ObD) (z : Int) (p : Int) (n : Nat) : List Nat := (List.range n).filter (fun i => decide ((os.getD i ob0).prio = p) && onB os z i)
/-- Who takes a signal, the highest first, as far as the levels have come. -/
def pubT (os : List ObD) (z : Int) (j : Nat) : List Nat := (List.range j).flatMap (fun (j : Nat) => lvl os z (1000 - (j : Int)) os.length)
def pubL (os : List ObD) (z : Int) : List Nat := pubT os z 1000
theorem lvl_succ (os : List ObD) (z p : Int) (n : Nat) : lvl os z p (n + 1) = lvl os z p n ++ (if (decide ((os.getD n ob0).prio = p) && onB os z n) = true then [n] else []) := by
  unfold lvl
  rw [List.range_succ, List.filter_append, List.filter_cons, List.filter_nil]
theorem pubT_succ (os : List ObD) (z : Int) (j : Nat) : pubT os z (j + 1) = pubT os z j ++ lvl os z (1000 - (j : Int)) os.length := by
  unfold pubT
  rw [List.range_succ, List.flatMap_append]
  simp
def pubK (os : List ObD) (k : KerD) (l : List Nat) (x : Int × Int) : KerD × List (Int × Int × Int) := l.foldl (fun s i => putK os s.1 s.2 i x) (k, [])
theorem pubK_snoc (os : List ObD) (k : KerD) (l : List Nat) (i : Nat) (x : Int × Int) : pubK os k (l ++ [i]) x = putK os (pubK os k l x).1 (pubK os k l x).2 i x := by unfold pubK; rw [List.foldl_append]; rfl
def publishK (sg : Int) (os : List ObD) (ts : List (Int × Int)) (k : KerD) (sig arg : Int) : KerD × List (Int × Int × Int) :=
  if kerB sg os ts k = true then (if 0 ≤ sig ∧ sig ≤ sg - 1 then pubK os k (pubL os sig) (sig, arg) else (k, [(4, -1, sig)])) else (kd0, [])
/-- What a publish leaves, as far as it has come. -/
structure PbI (os : List ObD) (kd : KerD) (t : Nat) (s : KerD × List (Int × Int × Int)) : Prop where
  l : s.1.leaf = kd.leaf
  v : s.1.vals = kd.vals
  d : s.1.ds = kd.ds
  e : s.1.left = kd.left
  f : s.1.every = kd.every
  q : s.1.qs.length = kd.qs.length
  qo : QOk os s.1
  r : s.2.length ≤ t
theorem pbi_snoc {os : List ObD} {kd : KerD} {t : Nat} {s : KerD × List (Int × Int × Int)} (g : PbI os kd t s) (i : Nat) (x : Int × Int) : PbI os kd (t + 1) (putK os s.1 s.2 i x) := by
  have p := putK_i os s.1 s.2 i x
  exact ⟨p.l.trans g.l, p.v.trans g.v, p.d.trans g.d, p.e.trans g.e, p.f.trans g.f, p.q.trans g.q, putK_q g.qo _ _ _, Nat.le_trans (putK_r _ _ _ _ _) (by have := g.r; omega)⟩
theorem pbi {os : List ObD} {kd : KerD} (h : QOk os kd) (x : Int × Int) (l : List Nat) : ∀ n, n ≤ l.length → PbI os kd n (pubK os kd (l.take n) x)
  | 0, _ => ⟨rfl, rfl, rfl, rfl, rfl, rfl, h, Nat.le_refl _⟩
  | n + 1, hn => by
    have g := pbi h x l n (by omega)
    rw [List.take_add_one, List.getElem?_eq_getElem (by omega)]
    show PbI os kd (n + 1) (pubK os kd (l.take n ++ [l[n]]) x)
    rw [pubK_snoc]
    exact pbi_snoc g _ _
/-- What a checked system says of the levels and the signals. -/
structure SysP (os : List ObD) : Prop where
  lv : ∀ i, i < os.length → 1 ≤ (os.getD i ob0).prio ∧ (os.getD i ob0).prio ≤ 1000
  ne : ∀ i j, i < j → j < os.length → (os.getD i ob0).prio ≠ (os.getD j ob0).prio
  nd : ∀ i, i < os.length → (os.getD i ob0).subs.Nodup
theorem sys_p {sg : Int} {os : List ObD} {ts : List (Int × Int)} {k : KerD} (h : kerB sg os ts k = true) : SysP os := by
  have h0 : (sysFault sg os ts).1 = 0 := by unfold kerB at h; exact (of_decide_eq_true h).1
  have ob : ∀ i, i < os.length → (objOK (os.getD i ob0) = true ∧ dupB os i = false) ∧ ∀ j, j < (os.getD i ob0).subs.length → badSub sg (os.getD i ob0).subs j = false := by
    intro i hi
    have h1 := sys_objs h0 hi
    unfold objFault at h1
    split at h1
    · rename_i h2
      refine ⟨h2, fun j hj => ?_⟩
      cases e : firstB (badSub sg (os.getD i ob0).subs) (os.getD i ob0).subs.length with
      | some q => rw [e] at h1; simp at h1
      | none => exact firstB_none_iff e j hj
    · simp at h1
  refine ⟨fun i hi => ?_, fun i j hij hj => ?_, fun i hi => ?_⟩
  · have h3 := (ob i hi).1.1
    unfold objOK at h3
    simp only [Bool.and_eq_true] at h3
    exact bet_of h3.1
  · have h3 := (ob j hj).1.2
    unfold dupB at h3
    cases e : firstB (samePr os j) j with
    | some q => rw [e] at h3; simp at h3
    | none =>
      have h4 := firstB_none_iff e i hij
      unfold samePr at h4
      exact of_decide_eq_false h4
  · rw [List.nodup_iff_pairwise_ne, List.pairwise_iff_getElem]
    intro a b ha hb hab e1
    have h3 := (ob i hi).2 b hb
    unfold badSub at h3
    simp only [Bool.or_eq_false_iff] at h3
    cases e : firstB (sameSub (os.getD i ob0).subs b) b with
    | some q => rw [e] at h3; simp at h3
    | none =>
      have h4 := firstB_none_iff e a hab
      unfold sameSub at h4
      refine (of_decide_eq_false h4) ?_
      generalize (os.getD i ob0).subs = us at ha hb e1 ⊢
      rw [List.getD_eq_getElem?_getD, List.getD_eq_getElem?_getD, List.getElem?_eq_getElem ha, List.getElem?_eq_getElem hb]
      simpa using e1
theorem subsF_at (a : Nat) (z : Int) : ∀ (us : List Int) (f : Int → List Nat), us.Nodup → subsF f a us z = if us.contains z = true then f z ++ [a] else f z
  | [], f, _ => by simp [subsF]
  | u :: r, f, h => by
    have hn := List.nodup_cons.1 h
    have ih := subsF_at a z r (addS f u a) hn.2
    show subsF (addS f u a) a r z = _
    rw [ih]
    unfold addS
    by_cases e : z = u
    · subst e
      rw [if_pos rfl, if_neg (by simpa using hn.1), if_pos (by simp)]
    · rw [if_neg e]
      have : (u :: r).contains z = r.contains z := by simp [e]
      rw [this]
theorem rankF_at (z : Int) : ∀ (l : List (Nat × List Int)) (f : Int → List Nat), (∀ x ∈ l, x.2.Nodup) → l.foldl (fun f x => subsF f x.1 x.2) f z = f z ++ (l.filter (fun x => x.2.contains z)).map Prod.fst
  | [], f, _ => by simp
  | x :: r, f, h => by
    rw [List.foldl_cons, rankF_at z r _ (fun y hy => h y (by simp [hy])), subsF_at _ _ _ _ (h x (by simp)), List.filter_cons]
    split <;> simp
/-- Lists that fall strictly and hold the same are the same. -/
theorem same_of_falls (p : Nat → Int) : ∀ (a b : List Nat), a.Pairwise (fun i j => p j < p i) → b.Pairwise (fun i j => p j < p i) → (∀ x, x ∈ a ↔ x ∈ b) → a = b
  | [], [], _, _, _ => rfl
  | [], y :: s, _, _, h => by have := (h y).2 (by simp); simp at this
  | x :: r, [], _, _, h => by have := (h x).1 (by simp); simp at this
  | x :: r, y :: s, ha, hb, h => by
    have ha' := List.pairwise_cons.1 ha
    have hb' := List.pairwise_cons.1 hb
    have e : x = y := by
      have h1 := (h x).1 (by simp)
      have h2 := (h y).2 (by simp)
      rcases List.mem_cons.1 h1 with e | h3
      · exact e
      · rcases List.mem_cons.1 h2 with e | h4
        · exact e.symm
        · have q1 := hb'.1 x h3
          have q2 := ha'.1 y h4
          omega
    subst e
    congr 1
    refine same_of_falls p r s ha'.2 hb'.2 (fun u => ⟨fun hu => ?_, fun hu => ?_⟩)
    · rcases List.mem_cons.1 ((h u).1 (by simp [hu])) with e | h3
      · subst e; have := ha'.1 u hu; omega
      · exact h3
    · rcases List.mem_cons.1 ((h u).2 (by simp [hu])) with e | h3
      · subst e; have := hb'.1 u hu; omega
      · exact h3
theorem pubT_mem {os : List ObD} {z : Int} {j x : Nat} : x ∈ pubT os z j ↔ x < os.length ∧ onB os z x = true ∧ ∃ q : Nat, q < j ∧ (os.getD x ob0).prio = 1000 - (q : Int) := by
  unfold pubT lvl
  rw [List.mem_flatMap]
  constructor
  · rintro ⟨q, h1, h2⟩
    rw [List.mem_filter] at h2
    simp only [List.mem_range, Bool.and_eq_true, decide_eq_true_eq] at h1 h2
    exact ⟨h2.1, h2.2.2, q, h1, h2.2.1⟩
  · rintro ⟨h1, h2, q, h3, h4⟩
    refine ⟨q, by simpa using h3, ?_⟩
    rw [List.mem_filter]
    simp only [List.mem_range, Bool.and_eq_true, decide_eq_true_eq]
    exact ⟨h1, h4, h2⟩
theorem lvl_falls {os : List ObD} (h : SysP os) (z p : Int) : ∀ n, n ≤ os.length → (lvl os z p n).Pairwise (fun i j => (os.getD j ob0).prio < (os.getD i ob0).prio)
  | 0, _ => by simp [lvl]
  | n + 1, hn => by
    rw [lvl_succ, List.pairwise_append]
    refine ⟨lvl_falls h z p n (by omega), by split <;> simp, ?_⟩
    intro a ha b hb
    unfold lvl at ha
    rw [List.mem_filter] at ha
    simp only [List.mem_range, Bool.and_eq_true, decide_eq_true_eq] at ha
    split at hb
    · rename_i e
      simp only [Bool.and_eq_true, decide_eq_true_eq] at e
      simp at hb
      subst hb
      exact absurd (ha.2.1.trans e.1.symm) (h.ne a b ha.1 (by omega))
    · simp at hb
theorem pubT_falls {os : List ObD} (h : SysP os) (z : Int) : ∀ j, (pubT os z j).Pairwise (fun i j => (os.getD j ob0).prio < (os.getD i ob0).prio)
  | 0 => by simp [pubT]
  | j + 1 => by
    rw [pubT_succ, List.pairwise_append]
    refine ⟨pubT_falls h z j, lvl_falls h z _ _ (Nat.le_refl _), ?_⟩
    intro a ha b hb
    obtain ⟨_, _, q, hq, e⟩ := pubT_mem.1 ha
    unfold lvl at hb
    rw [List.mem_filter] at hb
    simp only [List.mem_range, Bool.and_eq_true, decide_eq_true_eq] at hb
    rw [e, hb.2.1]
    omega
theorem pubL_lt {os : List ObD} {z : Int} {x : Nat} (h : x ∈ pubL os z) : x < os.length := (pubT_mem.1 h).1
theorem pubL_len {os : List ObD} (h : SysP os) (z : Int) : (pubL os z).length ≤ os.length := by
  have nd : (pubL os z).Nodup := by
    rw [List.nodup_iff_pairwise_ne]
    exact (pubT_falls h z 1000).imp (fun {a b} hab e => by subst e; omega)
  have := List.Nodup.length_le_of_subset nd (l₂ := List.range os.length) (fun x hx => by simpa using pubL_lt hx)
  simpa using this
/-- What rank has laid under a signal. -/
theorem rank_pub {os : List ObD} {cl : List Ac} {d : Array Nat} (h : SysP os) (hn : cl.length = os.length) (hp : PermIn 0 cl.length (Array.range cl.length) d) (hs : SortedIn (ltOf (cfP (pA os cl))) 0 cl.length d) (z : Int) : rankF (lstA os cl d) z = (pubL os z).map (fun i => (cl.getD i ac0).a) := by
  obtain ⟨q1, q2, q3⟩ := hp
  have sz : d.size = cl.length := by simpa using q1
  have pr : d.toList.Perm (List.range cl.length) := by
    have e1 : (d.extract 0 cl.length).toList = d.toList := by rw [← sz]; simp
    have e2 : ((Array.range cl.length).extract 0 cl.length).toList = List.range cl.length := by
      have : (Array.range cl.length).extract 0 cl.length = Array.range cl.length := by
        have h9 : (Array.range cl.length).size = cl.length := by simp
        conv => lhs; rw [show (Array.range cl.length).extract 0 cl.length = (Array.range cl.length).extract 0 (Array.range cl.length).size by rw [h9]]
        simp
      rw [this]; simp
    rw [e1, e2] at q3
    exact q3
  have lt : ∀ x ∈ d.toList, x < cl.length := fun x hx => by simpa using (pr.mem_iff.1 hx)
  have ix : ∀ x ∈ d.toList, ixA cl.length x = x := fun x hx => by unfold ixA; rw [if_pos (lt x hx)]
  have e0 : lstA os cl d = d.toList.map (fun i => ((cl.getD i ac0).a, (os.getD i ob0).subs)) := by
    unfold lstA aA
    refine List.map_congr_left (fun x hx => ?_)
    rw [ix x hx]
  have e1 : rankF (lstA os cl d) z = (d.toList.filter (onB os z)).map (fun i => (cl.getD i ac0).a) := by
    unfold rankF
    rw [rankF_at z _ _ (fun x hx => by
      rw [e0] at hx
      obtain ⟨i, hi, rfl⟩ := List.mem_map.1 hx
      exact h.nd i (by have := lt i hi; omega)), e0, List.filter_map, List.map_map]
    rfl
  suffices e2 : d.toList.filter (onB os z) = pubL os z by rw [e1, e2]
  have pf : (pubL os z).Pairwise (fun i j => (os.getD j ob0).prio < (os.getD i ob0).prio) := pubT_falls h z 1000
  refine same_of_falls (fun i => (os.getD i ob0).prio) _ _ ?_ pf ?_
  · refine List.Pairwise.filter _ ?_
    rw [List.pairwise_iff_getElem]
    intro a b ha hb hab
    have ha' : a < d.size := by simpa using ha
    have hb' : b < d.size := by simpa using hb
    have s := hs a b (Nat.zero_le _) hab (by omega)
    rw [ltP] at s
    have s1 := of_decide_eq_false s
    have ea : d[a]! = d.toList[a] := by simp [ha']
    have eb : d[b]! = d.toList[b] := by simp [hb']
    rw [ea, eb] at s1
    unfold pA at s1
    rw [ix _ (List.getElem_mem ha), ix _ (List.getElem_mem hb)] at s1
    have nd : d.toList.Nodup := pr.nodup_iff.2 List.nodup_range
    have ne : d.toList[a] ≠ d.toList[b] := by
      rw [List.nodup_iff_pairwise_ne, List.pairwise_iff_getElem] at nd
      exact nd a b ha hb hab
    have la := lt _ (List.getElem_mem ha)
    have lb := lt _ (List.getElem_mem hb)
    have np : (os.getD d.toList[a] ob0).prio ≠ (os.getD d.toList[b] ob0).prio := by
      rcases Nat.lt_or_gt_of_ne ne with x | x
      · exact h.ne _ _ x (by omega)
      · exact fun e => h.ne _ _ x (by omega) e.symm
    show (os.getD d.toList[b] ob0).prio < (os.getD d.toList[a] ob0).prio
    omega
  · intro x
    rw [List.mem_filter, pr.mem_iff]
    unfold pubL
    rw [pubT_mem]
    constructor
    · rintro ⟨h1, h2⟩
      have h3 : x < os.length := by rw [← hn]; simpa using h1
      have h4 := h.lv x h3
      exact ⟨h3, h2, (1000 - (os.getD x ob0).prio).toNat, by omega, by omega⟩
    · rintro ⟨h1, h2, _⟩
      exact ⟨by rw [hn]; simpa using h1, h2⟩
end Go.Proofs.YthaklmdhkkfigaaGreat
namespace Go.Proofs.YthaklmdhkkfigaaGreat
open Go.RowKit Go.Sort
set_option linter.unusedVariables false
attribute [local go_sem ↓] Go.wp_at_zero Go.wp_at_succ

theorem lvl_len (os : List ObD) (z p : Int) (n : Nat) : (lvl os z p n).length ≤ n := by
  have := List.length_filter_le (fun i => decide ((os.getD i ob0).prio = p) && onB os z i) (List.range n)
  simpa [lvl] using this
theorem pubT_len (os : List ObD) (z : Int) : ∀ j, (pubT os z j).length ≤ j * os.length
  | 0 => by simp [pubT]
  | j + 1 => by
    rw [pubT_succ, List.length_append, Nat.succ_mul]
    have h1 := pubT_len os z j
    have h2 := lvl_len os z (1000 - (j : Int)) os.length
    omega
def ints (l : List Nat) : List Value := l.map fun (x : Nat) => .int .i64 (x : Int)
/-- l4ByPrio as far as it has come. -/
structure Bp (w : World) (bx : Array Value) (lv : Value) (l : List Nat) (X : World) : Prop where
  bel : Below w.heap.size w X
  q : X.heap[w.heap.size]? = some (.cells bx 42 (0, 0))
  o : X.ownsRow w.heap.size 3 1 lv l.length (ints l)
theorem Bp.below {w : World} {bx : Array Value} {lv : Value} {l : List Nat} {X Y : World} (h : Bp w bx lv l X) (hb : Below X.heap.size X Y) : Bp w bx lv l Y :=
  ⟨h.bel.trans (hb.mono h.bel.size), block_below h.q hb, ownsRow_below h.o hb⟩
theorem Bp.grown {w : World} {bx : Array Value} {lv : Value} {l l' : List Nat} {X Y : World} {g cap : Nat} (h : Bp w bx lv l X) (hg : X.grownBy Y lv.ownBlock) (ho : Y.ownsRow w.heap.size 3 1 (.slice (some ⟨g, 0, none⟩) l'.length cap) l'.length (ints l')) : Bp w bx (.slice (some ⟨g, 0, none⟩) l'.length cap) l' Y :=
  ⟨h.bel.trans ⟨hg.os, hg.tape, hg.output, hg.size, fun k hk => hg.block k (Nat.lt_of_lt_of_le hk h.bel.size) (fun e => by have := (h.o.lt k e.symm).1; omega)⟩,
    (hg.block _ (lt_of_block h.q) (fun e => own_far2 h.o (by decide) h.q e.symm)).trans h.q, ho⟩

set_option maxRecDepth 100000 in
set_option maxHeartbeats 8000000 in
theorem byPrio_any (sg : Int) (eo xo : Option Addr) (en ec xn xc : Nat) (os : List ObD) (z : Int) (ga ic : Nat) (w : World) (hen : en ≤ 64) (he : ObsOf w eo en os) (hga : ga < w.heap.size) (hin : ∀ i, i < en → w.cell? ⟨ga, i, none⟩ = some (.bool (onB os z i))) :
    Calls Tryz.prog 88 #[sysV sg eo xo en ec xn xc, .slice (some ⟨ga, 0, none⟩) en ic] w fun e w' => ∃ v, e = .returned v ∧ w'.ownsRow w.heap.size 3 1 v (pubL os z).length (ints (pubL os z)) ∧ Below w.heap.size w w' := by
  obtain ⟨i0, hi0, hz0, hz1, hz2⟩ := info_parts Tryz.infoInt0
  have HL : Hid (os.length = en) := hid he.1
  have HO := hid he
  have HI := hid hin
  have PL : Hid (pubL os z = pubT os z 1000) := hid rfl
  have LN : Hid (∀ j b, j ≤ 1000 → b ≤ en → (pubT os z j ++ lvl os z (1000 - (j : Int)) b).length ≤ 100000) := hid (fun j b hj hb => by
    have h1 := pubT_len os z j
    have h2 := lvl_len os z (1000 - (j : Int)) b
    have h3 : j * os.length ≤ 1000 * 64 := Nat.mul_le_mul hj (by rw [HL.out]; exact hen)
    rw [List.length_append]; omega)
  have E0 : Hid (Bp w #[.int .i64 sg, .slice eo en ec, .slice xo xn xc] (.slice (some ⟨w.heap.size + 1, 0, none⟩) 0 0) (pubT os z 0) ((w.alloc (.cells #[.int .i64 sg, .slice eo en ec, .slice xo xn xc] 42)).alloc (.cells #[] 3))) := hid ⟨below2 _ _ _, block_below (heap_alloc_new w _) (below1 _ _), by
    have h := World.ownsRow_lit (w.alloc (.cells #[.int .i64 sg, .slice eo en ec, .slice xo xn xc] 42)) (e := 3) (size := 1) (base := w.heap.size) #[] 0 (by simp) (by decide) rfl
    simpa [pubT, ints] using h⟩
  clear he hin
  unfold sysV
  rw [PL.out]
  go_enter Tryz.func88, Tryz.ntmps88
  go_wp2_with fail
  go_loopg [5, 6] 1000 (fun mm lv p X => ∃ j : Nat, j ≤ 1000 ∧ mm = 1000 - j ∧ p = .int .i64 (1000 - (j : Int)) ∧ Bp w #[.int .i64 sg, .slice eo en ec, .slice xo xn xc] lv (pubT os z j) X)
  case atStart => exact ⟨0, by omega, by omega, rfl, by simpa using E0.out⟩
  case round =>
    obtain ⟨j, hj, rfl, rfl, hC⟩ := hrel
    obtain ⟨pz, hpz⟩ : ∃ pz : Int, pz = 1000 - (j : Int) := ⟨_, rfl⟩
    rw [← hpz]
    obtain ⟨ao, cap, hv⟩ := slice_of hC.o
    have CC := hid hC
    subst hv
    by_cases hlt : j < 1000
    · have h1 : 1 ≤ pz := by omega
      have hp2 : pz ≤ 1000 := by omega
      have HP := hid hpz
      obtain ⟨q0, q1, q2⟩ := three_cells hC.q
      have lq := lt_of_block hC.q
      clear hC hpz
      go_wp2_with fail
      clear q0 q1 q2 lq
      go_loopg [5, 17] en (fun mm lv ix X => ∃ b : Nat, b ≤ en ∧ mm = en - b ∧ ix = .int .i64 b ∧ Bp w #[.int .i64 sg, .slice eo en ec, .slice xo xn xc] lv (pubT os z j ++ lvl os z (1000 - (j : Int)) b) X)
      case atStart => exact ⟨0, by omega, by omega, rfl, by simpa [lvl] using CC.out⟩
      case round =>
        obtain ⟨b, hb, rfl, rfl, hD⟩ := hrel
        have DD := hid hD
        obtain ⟨ao2, cap2, hv2⟩ := slice_of hD.o
        subst hv2
        by_cases hbt : b < en
        · obtain ⟨tb, off, rfl, htl, htc⟩ := HO.out.2 (by omega)
          obtain ⟨⟨ko, kn, kc, vo, vn, vc, uo, un, uc, so, sn, sc, tz, tn, tc⟩, ⟨x0, x1, x2, x3, x4, x5, x6, x7⟩, _, _⟩ := htc b hbt
          dsimp only at x0 x1 x2 x3 x4 x5 x6 x7
          obtain ⟨pv, hpv⟩ : ∃ x, x = (os.getD b ob0).prio := ⟨_, rfl⟩
          obtain ⟨qv, hqv⟩ : ∃ x, x = (os.getD b ob0).qcap := ⟨_, rfl⟩
          obtain ⟨dv, hdv⟩ : ∃ x, x = (os.getD b ob0).dcap := ⟨_, rfl⟩
          rw [← hpv] at x0
          rw [← hqv] at x1
          rw [← hdv] at x2
          have y0 := (hD.bel.cell (p := ⟨tb, off + b * 8, none⟩) htl).trans x0
          have y1 := (hD.bel.cell (p := ⟨tb, off + b * 8 + 1, none⟩) htl).trans x1
          have y2 := (hD.bel.cell (p := ⟨tb, off + b * 8 + 2, none⟩) htl).trans x2
          have y3 := (hD.bel.cell (p := ⟨tb, off + b * 8 + 3, none⟩) htl).trans x3
          have y4 := (hD.bel.cell (p := ⟨tb, off + b * 8 + 4, none⟩) htl).trans x4
          have y5 := (hD.bel.cell (p := ⟨tb, off + b * 8 + 5, none⟩) htl).trans x5
          have y6 := (hD.bel.cell (p := ⟨tb, off + b * 8 + 6, none⟩) htl).trans x6
          have y7 := (hD.bel.cell (p := ⟨tb, off + b * 8 + 7, none⟩) htl).trans x7
          have yi := (hD.bel.cell (p := ⟨ga, b, none⟩) hga).trans (HI.out b hbt)
          obtain ⟨on, hon⟩ : ∃ x, x = onB os z b := ⟨_, rfl⟩
          rw [← hon] at yi
          have bi : (b : Int) < (en : Int) := by omega
          have gl : ga < wr.heap.size := Nat.lt_of_lt_of_le hga hD.bel.size
          have L1 := hid (LN.out j b hj hb)
          have EL : Hid (lvl os z (1000 - (j : Int)) (b + 1) = lvl os z (1000 - (j : Int)) b ++ (if (decide (pv = pz) && on) = true then [b] else [])) := hid (by rw [lvl_succ, ← HP.out, hpv, hon])
          clear hD htc x0 x1 x2 x3 x4 x5 x6 x7 hpv hqv hdv hon
          have B8 := hid (below1 wr (.cells #[.int .i64 pv, .int .i64 qv, .int .i64 dv, .slice ko kn kc, .slice vo vn vc, .slice uo un uc, .slice so sn sc, .slice tz tn tc] 134))
          by_cases hp : pv = pz
          · subst hp
            cases on with
            | true =>
              have EX := hid (show lvl os z (1000 - (j : Int)) (b + 1) = lvl os z (1000 - (j : Int)) b ++ [b] by rw [EL.out]; simp)
              clear EL
              go_wp2_with (at_builtin; refine wpList_append_lies _ rfl (.tmp 32) (.tmp 34) 26 rfl w.heap.size 3 i0 _ 1 8 Tryz.underlying26 hi0 hz0 hz1 hz2 rfl (by decide) _ _ _ rfl (DD.out.below (below2 _ _ _)).o ⟨wr.heap.size + 1, 0, none⟩ 1 1 [.int .i64 (b : Int)] rfl rfl (by simpa using news_one (wr.alloc (.cells #[.int .i64 pv, .int .i64 qv, .int .i64 dv, .slice ko kn kc, .slice vo vn vc, .slice uo un uc, .slice so sn sc, .slice tz tn tc] 134)) (.int .i64 (b : Int)) 3) (by intro u hu; simp at hu; subst hu; rfl) (by omega) (by have := L1.out; unfold maxLen; omega) (by have := L1.out; omega) (by have := DD.out.bel.size; simp; omega) (wr.heap.size + 1 + 1) (by simp) ?_)
              intro g cap' w2 hown hgrow hat _
              rw [← List.length_append] at hgrow hat
              have D2 := hid ((DD.out.below (below2 wr _ _)).grown (l' := pubT os z j ++ lvl os z (1000 - (j : Int)) (b + 1)) hgrow (by rw [EX.out]; simpa [ints, Nat.add_assoc] using hown))
              have LE : Hid ((pubT os z j ++ lvl os z (1000 - (j : Int)) b).length + 1 = (pubT os z j ++ lvl os z (1000 - (j : Int)) (b + 1)).length) := hid (by rw [EX.out]; simp; omega)
              clear hown hgrow hat
              go_wp2
              go_roundg (en - (b + 1))
              case measure => omega
              case rel => exact ⟨b + 1, by omega, rfl, by simp, by rw [← List.length_append, LE.out]; exact D2.out⟩
            | false =>
              have EX := hid (show lvl os z (1000 - (j : Int)) (b + 1) = lvl os z (1000 - (j : Int)) b by rw [EL.out]; simp)
              clear EL
              go_wp2_with fail
              go_roundg (en - (b + 1))
              case measure => omega
              case rel => exact ⟨b + 1, by omega, rfl, by simp, by rw [EX.out]; simpa using DD.out.below B8.out⟩
          · have EX := hid (show lvl os z (1000 - (j : Int)) (b + 1) = lvl os z (1000 - (j : Int)) b by rw [EL.out]; simp [hp])
            clear EL
            go_wp2_with fail
            go_roundg (en - (b + 1))
            case measure => omega
            case rel => exact ⟨b + 1, by omega, rfl, by simp, by rw [EX.out]; simpa using DD.out.below B8.out⟩
        · obtain rfl : b = en := by omega
          have D2 : Hid (Bp w #[.int .i64 sg, .slice eo b ec, .slice xo xn xc] (.slice ao2 (pubT os z j ++ lvl os z (1000 - (j : Int)) b).length cap2) (pubT os z (j + 1)) wr) := hid (by rw [pubT_succ, HL.out]; exact DD.out)
          clear hD
          go_wp2_with fail
          go_roundg (1000 - (j + 1))
          case measure => omega
          case rel => exact ⟨j + 1, by omega, rfl, by have := HP.out; go_num, by simpa using D2.out⟩
    · have h1 : ¬ 1 ≤ pz := by omega
      obtain rfl : j = 1000 := by omega
      clear hC hpz
      go_wp2_with fail
      go_ret
      exact ⟨_, rfl, CC.out.o, CC.out.bel⟩
end Go.Proofs.YthaklmdhkkfigaaGreat
namespace Go.Proofs.YthaklmdhkkfigaaGreat
open Go.RowKit Go.Sort
set_option linter.unusedVariables false
attribute [local go_sem ↓] Go.wp_at_zero Go.wp_at_succ

set_option maxRecDepth 100000 in
set_option maxHeartbeats 1600000 in
theorem note_kp (B H : Nat) (sv ov tv L V Q D E F R : Value) (k : KerD) (vs vq vd : List Value) (rs : List (Int × Int × Int)) (a b c : Int) (w : World) (hB : B ≤ w.heap.size) (hl : rs.length ≤ 1048576) (h : Wb w B H sv ov tv L V Q D E F R k vs vq vd rs) :
    Calls Tryz.prog 32 #[.pointer (some ⟨H, 0, none⟩), .int .i64 a, .int .i64 b, .int .i64 c] w fun e w' => e = .returned (.tuple #[]) ∧ ∃ ra rn rc, Wb w' B H sv ov tv L V Q D E F (.slice ra rn rc) k vs vq vd (rs ++ [(a, b, c)]) ∧ Below B w w' ∧ Kp [3] w w' := by
  obtain ⟨i0, hi, hz0, hz1, hz2⟩ := info_parts Tryz.infoRc
  obtain ⟨ra, rm, rp, rfl⟩ := row_form h.r
  obtain ⟨⟨y0, y1, y2⟩, ⟨y3, y4, y5, y6, y7, y8⟩, y9⟩ := ten_cells h.o
  have f9 := froz h.o 9
  have hHl := lt_of_block h.o
  have HH := hid h
  clear h
  go_enter Tryz.func32, Tryz.ntmps32
  go_wp2_with (at_builtin; refine wpList_append_own _ rfl (.tmp 12) (.tmp 17) 36 rfl B 106 i0 (.agg #[.int .i64 0, .int .i64 0, .int .i64 0]) 3 24 Tryz.underlying36 hi hz0 hz1 hz2 rfl (by decide) (.slice ra rm rp) rs.length (rcC rs) rfl (ownsRow_below HH.out.r (below1 _ _)) ⟨w.heap.size, 0, none⟩ 1 1 [.int .i64 a, .int .i64 b, .int .i64 c] rfl rfl (World.news_of_block (heap_alloc_new w _)) (one3 _ _ _) (by unfold maxLen; omega) (by omega) (by simp; omega) ?_; intro v1 w1 hown hgrow _; obtain ⟨za, zm, zc, rfl⟩ := row_form hown; have N := HH.out.note1 (x := (a, b, c)) (below1 _ _) hgrow hown; have NW := hid N.2; obtain ⟨⟨z0, z1, z2⟩, ⟨z3, z4, z5, z6, z7, z8⟩, z9⟩ := ten_cells N.1; have g9 := froz N.1 9; have zl := lt_of_block N.1; have BB := hid (below_grown (Below.refl B w) hB HH.out.r hgrow); have KK := hid (((Kp.below (T := [3]) (below1 w _)).trans (Kp.grown (ownsRow_below HH.out.r (below1 _ _)) hgrow (by decide))).trans (Kp.set N.1 (by decide) (.slice za zm zc) (o := 9))); clear hown hgrow N)
  go_end0
  exact ⟨rfl, _, _, _, NW.out, BB.out.setCell HH.out.hH _, KK.out⟩
set_option maxRecDepth 100000 in
set_option maxHeartbeats 1600000 in
theorem put_fullK (B H g n c ob off en ec : Nat) (sv tv L V D E F R : Value) (k : KerD) (vs vq vd : List Value) (rs : List (Int × Int × Int)) (i : Nat) (x1 x2 cap : Int) (w : World) (hB : B ≤ w.heap.size) (hl : rs.length ≤ 1048576) (hi : i < k.qs.length) (hq : k.qs.length ≤ 1048576) (hin : i < en) (hqi : (k.qs.getD i []).length ≤ 1048576) (hen : en ≤ 1048576) (hc : w.cell? ⟨ob, off + i * 8 + 1, none⟩ = some (.int .i64 cap)) (hfull : cap ≤ (k.qs.getD i []).length)
    (h : Wb w B H sv (.slice (some ⟨ob, off, none⟩) en ec) tv L V (.slice (some ⟨g, 0, none⟩) n c) D E F R k vs vq vd rs) :
    Calls Tryz.prog 33 #[.pointer (some ⟨H, 0, none⟩), .int .i64 i, .agg #[.int .i64 x1, .int .i64 x2], .bool false] w fun e w' => e = .returned (.bool false) ∧ ∃ ra rn rc, Wb w' B H sv (.slice (some ⟨ob, off, none⟩) en ec) tv L V (.slice (some ⟨g, 0, none⟩) n c) D E F (.slice ra rn rc) k vs vq vd (rs ++ [(2, (i : Int), x1)]) ∧ Below B w w' ∧ Kp [3] w w' := by
  obtain ⟨xa, xc, hci, hcr, hn⟩ := ev_cell h.wk.q hi
  have B1 := below1 w (.cells #[.int .i64 x1, .int .i64 x2] 70)
  have h1 := h.below B1
  obtain ⟨⟨y0, y1, y2⟩, ⟨y3, y4, y5, y6, y7, y8⟩, y9⟩ := ten_cells h1.o
  have HN := hid (fun W hw => note_kp B H sv (.slice (some ⟨ob, off, none⟩) en ec) tv L V (.slice (some ⟨g, 0, none⟩) n c) D E F R k vs vq vd rs 2 i x1 W (Nat.le_trans hB (Below.size (w' := W) hw)) hl (h.below hw))
  have hgl := World.block_lt_of_cell? w _ hci
  have hol := World.block_lt_of_cell? w _ hc
  have hin' : (i : Int) < (n : Int) := by omega
  have hie' : (i : Int) < (en : Int) := by omega
  have i0 : ¬ (i : Int) < 0 := by omega
  obtain ⟨m, hm⟩ : ∃ m, m = (k.qs.getD i []).length := ⟨_, rfl⟩
  rw [← hm] at hfull hci hcr hqi
  have hHl := lt_of_block h1.o
  have BB1 := hid B1
  have nb : B ≤ w.heap.size := hB
  clear h h1 hcr hm B1
  go_enter Tryz.func33, Tryz.ntmps33
  go_wp2_with (go_at_call 32; with_reducible refine (HN.out _ BB1.out).mono ?_; rintro e w1 ⟨rfl, ra, rn, rc, hw, hb, hk⟩; have W1 := hid hw; have WB := hid hb; have WK := hid hk; clear hw hb hk)
  go_ret
  exact ⟨rfl, ra, rn, rc, W1.out, (BB1.out.mono nb).trans WB.out, (Kp.below BB1.out).trans WK.out⟩
set_option maxRecDepth 100000 in
set_option maxHeartbeats 1600000 in
theorem put_roomK (B H g n c ob off en ec : Nat) (sv tv L V D E F R : Value) (k : KerD) (vs vq vd : List Value) (rs : List (Int × Int × Int)) (i : Nat) (x1 x2 cap : Int) (w : World) (hB : B ≤ w.heap.size) (hi : i < k.qs.length) (hq : k.qs.length ≤ 1048576) (hin : i < en) (hqi : (k.qs.getD i []).length ≤ 1048576) (hen : en ≤ 1048576) (hc : w.cell? ⟨ob, off + i * 8 + 1, none⟩ = some (.int .i64 cap)) (hroom : ¬ cap ≤ (k.qs.getD i []).length)
    (h : Wb w B H sv (.slice (some ⟨ob, off, none⟩) en ec) tv L V (.slice (some ⟨g, 0, none⟩) n c) D E F R k vs vq vd rs) :
    Calls Tryz.prog 33 #[.pointer (some ⟨H, 0, none⟩), .int .i64 i, .agg #[.int .i64 x1, .int .i64 x2], .bool false] w fun e w' => e = .returned (.bool true) ∧ (∃ x, Wb w' B H sv (.slice (some ⟨ob, off, none⟩) en ec) tv L V (.slice (some ⟨g, 0, none⟩) n c) D E F R { k with qs := k.qs.set i (k.qs.getD i [] ++ [(x1, x2)]) } vs (vq.set i x) vd rs) ∧ Below B w w' ∧ Kp [3] w w' := by
  obtain ⟨i0, hi0, hz0, hz1, hz2⟩ := info_parts Tryz.infoEv
  obtain ⟨xa, xc, hci, hcr, hn⟩ := ev_cell h.wk.q hi
  obtain ⟨U, hU⟩ : ∃ U, U = w.alloc (OEv x1 x2) := ⟨_, rfl⟩
  have B1 : Below w.heap.size w U := by rw [hU]; exact below1 _ _
  have uE : U.heap[w.heap.size]? = some (.cells #[.int .i64 x1, .int .i64 x2] 70 (0, 0)) := by rw [hU]; exact heap_alloc_new _ _
  have h1 := h.below B1
  obtain ⟨⟨y0, y1, y2⟩, ⟨y3, y4, y5, y6, y7, y8⟩, y9⟩ := ten_cells h1.o
  obtain ⟨e0, e1⟩ := two_cells uE
  have hgl : g < w.heap.size := World.block_lt_of_cell? w _ hci
  have hol : ob < w.heap.size := World.block_lt_of_cell? w _ hc
  have hci2 := (B1.cell (p := ⟨g, i, none⟩) hgl).trans hci
  have hc2 := (B1.cell (p := ⟨ob, off + i * 8 + 1, none⟩) hol).trans hc
  have hin' : (i : Int) < (n : Int) := by omega
  have hie' : (i : Int) < (en : Int) := by omega
  have i0' : ¬ (i : Int) < 0 := by omega
  obtain ⟨q, hqe⟩ : ∃ q, q = k.qs.getD i [] := ⟨_, rfl⟩
  rw [← hqe] at hroom hci hci2 hcr hqi ⊢
  obtain ⟨m, hm⟩ : ∃ m, m = q.length := ⟨_, rfl⟩
  have HM := hid hm
  rw [← hm] at hroom hci hci2 hcr hqi
  have hHl := lt_of_block h1.o
  have HE := hid h1
  have HR : Hid (ItemsOf U xa m q) := hid (EvRow.items (by have := ownsRow_below hcr B1; rw [hm] at this ⊢; exact this))
  have BU := hid B1
  have UE := hid uE
  have sB : Hid (B ≤ U.heap.size) := hid (Nat.le_trans hB B1.size)
  have LQ : Hid ((evC q).length = m * 2) := hid (by rw [evC_len, hm])
  have HU := hid hU
  have hwl := lt_of_block uE
  have nHg : ¬ H = g := by
    intro e
    obtain ⟨cs, hcs⟩ := own_cells h.wk.q.row
    have := h.o
    rw [e, hcs] at this
    simp at this
  have nHg' : ¬ g = H := fun e => nHg e.symm
  have nwg : ¬ w.heap.size = g := by omega
  have nwg' : ¬ g = w.heap.size := by omega
  have hgU : g < U.heap.size := Nat.lt_of_lt_of_le hgl B1.size
  have fg : Hid (∀ X, Below U.heap.size U X → X.cell? ⟨g, i, none⟩ = some (.slice xa m xc) ∧ X.frozen? ⟨g, i, none⟩ = false) := hid (fun X hX => ⟨(hX.cell (p := ⟨g, i, none⟩) hgU).trans hci2, by obtain ⟨cs, hcs⟩ := own_cells (h1.below hX).wk.q.row; exact froz hcs i⟩)
  have fS : Hid (∀ X, Below U.heap.size U X → (X.cell? ⟨H, 5, none⟩ = some (.slice (some ⟨g, 0, none⟩) n c) ∧ X.cell? ⟨w.heap.size, 0, none⟩ = some (.int .i64 x1) ∧ X.cell? ⟨w.heap.size, 1, none⟩ = some (.int .i64 x2))) := hid (fun X hX => ⟨(hX.cell (p := ⟨H, 5, none⟩) hHl).trans y5, (hX.cell (p := ⟨w.heap.size, 0, none⟩) hwl).trans e0, (hX.cell (p := ⟨w.heap.size, 1, none⟩) hwl).trans e1⟩)
  have z1 := y1
  have z5 := y5
  have z6 := hci2
  have z7 := hc2
  have z8 := e0
  have z9 := e1
  rw [hU] at z1 z5 z6 z7 z8 z9
  clear h h1 hcr hm B1 uE hci hc hqe hU hn
  go_enter Tryz.func33, Tryz.ntmps33
  go_upto_region 7 with (fail)
  rw [← HU.out]
  clear z1 z5 z6 z7 z8 z9 y0 y1 y2 y3 y4 y6 y7 y8 y9 hc2 hci2
  have bA := hid (show Below U.heap.size U (U.alloc O0).drew from (below1 _ _).drew)
  have bB := hid (show Below U.heap.size U ((U.alloc O0).alloc (OEv x1 x2)).drew from (below2 _ _ _).drew)
  have bC := hid (show Below U.heap.size U ((U.alloc (OEv x1 x2)).alloc O0).drew from (below2 _ _ _).drew)
  have oA := hid (show (U.alloc O0).drew.ownsRow U.heap.size 70 2 (.slice (some ⟨U.heap.size, 0, none⟩) 0 0) 0 [] from ownsRow_below (own_e0 (Nat.le_refl _)) (Below.refl _ _).drew)
  have oB := hid (show ((U.alloc O0).alloc (OEv x1 x2)).drew.ownsRow U.heap.size 70 2 (.slice (some ⟨U.heap.size, 0, none⟩) 0 0) 0 [] from ownsRow_below (own_e0 (Nat.le_refl _)) (below1 _ _).drew)
  have oC := hid (show ((U.alloc (OEv x1 x2)).alloc O0).drew.ownsRow U.heap.size 70 2 (.slice (some ⟨U.heap.size + 1, 0, none⟩) 0 0) 0 [] from by have := ownsRow_below (own_e0 (w := U.alloc (OEv x1 x2)) (B := U.heap.size) (by simp)) (Below.refl _ _).drew; simpa using this)
  have eB := hid (show ((U.alloc O0).alloc (OEv x1 x2)).drew.heap[U.heap.size + 1]? = some (.cells #[.int .i64 x1, .int .i64 x2] 70 (0, 0)) from by have := heap_alloc_new (U.alloc O0) (OEv x1 x2); rw [World.size_alloc] at this; exact this)
  have eC := hid (show ((U.alloc (OEv x1 x2)).alloc O0).drew.heap[U.heap.size]? = some (.cells #[.int .i64 x1, .int .i64 x2] 70 (0, 0)) from block_below (heap_alloc_new U (OEv x1 x2)) (below1 _ _).drew)
  go_region_held3 (fun X => X.cell? ⟨H, 5, none⟩ = some (.slice (some ⟨g, 0, none⟩) n c) ∧ X.cell? ⟨w.heap.size, 0, none⟩ = some (.int .i64 x1) ∧ X.cell? ⟨w.heap.size, 1, none⟩ = some (.int .i64 x2)) (first | (with_reducible exact SY.out) | (with_reducible exact SX.out) | go_keep)
    (first
      | (refine step_append_opt _ (by rfl) _ _ _ (by rfl) U.heap.size 70 i0 _ 2 16 Tryz.underlying138 hi0 hz0 hz1 hz2 rfl (by omega) (.slice (some ⟨U.heap.size, 0, none⟩) 0 0) 0 [] (by simp [Act.eval]) oA.out xa m xc (evC q) (by simp [Act.eval]) LQ.out (news_ev HR.out bA.out) (evC_one q) (by unfold maxLen; omega) (by omega) bA.out.size ?_; intro v5 w5 hown hgrow _; obtain ⟨ya, ym, yc, rfl⟩ := row_form hown; have O5 := hid hown; have B5 := hid (ev_first bA.out (by omega) hgrow); have SX := hid (fS.out w5 B5.out); have E5 := hid (True.intro); clear hown hgrow)
      | (refine step_append_opt _ (by rfl) _ _ _ (by rfl) U.heap.size 70 i0 _ 2 16 Tryz.underlying138 hi0 hz0 hz1 hz2 rfl (by omega) (.slice (some ⟨U.heap.size, 0, none⟩) 0 0) 0 [] (by simp [Act.eval]) oB.out xa m xc (evC q) (by simp [Act.eval]) LQ.out (news_ev HR.out bB.out) (evC_one q) (by unfold maxLen; omega) (by omega) bB.out.size ?_; intro v5 w5 hown hgrow _; obtain ⟨ya, ym, yc, rfl⟩ := row_form hown; have O5 := hid hown; have B5 := hid (ev_first bB.out (by omega) hgrow); have SX := hid (fS.out w5 B5.out); have E5 := hid (kept_e (show ((U.alloc O0).alloc (OEv x1 x2)).drew.heap[U.heap.size + 1]? = some (.cells #[.int .i64 x1, .int .i64 x2] 70 (0, 0)) from eB.out) (by simp [Value.ownBlock]) hgrow); clear hown hgrow)
      | (refine step_append_opt _ (by rfl) _ _ _ (by rfl) U.heap.size 70 i0 _ 2 16 Tryz.underlying138 hi0 hz0 hz1 hz2 rfl (by omega) (.slice (some ⟨U.heap.size + 1, 0, none⟩) 0 0) 0 [] (by simp [Act.eval]) oC.out xa m xc (evC q) (by simp [Act.eval]) LQ.out (news_ev HR.out bC.out) (evC_one q) (by unfold maxLen; omega) (by omega) bC.out.size ?_; intro v5 w5 hown hgrow _; obtain ⟨ya, ym, yc, rfl⟩ := row_form hown; have O5 := hid hown; have B5 := hid (ev_first bC.out (by omega) hgrow); have SX := hid (fS.out w5 B5.out); have E5 := hid (kept_e (show ((U.alloc (OEv x1 x2)).alloc O0).drew.heap[U.heap.size]? = some (.cells #[.int .i64 x1, .int .i64 x2] 70 (0, 0)) from eC.out) (by simp [Value.ownBlock]) hgrow); clear hown hgrow)
      | (have q1 := hid (ownsRow_below O5.out (below1 w5 (OEv x1 x2))); have q2 := hid (news_two (heap_alloc_new w5 (OEv x1 x2))); have q3 := hid (Nat.le_trans B5.out.size (below1 w5 (OEv x1 x2)).size); refine step_append_opt (w5.alloc (OEv x1 x2)) (by rfl) _ _ _ (by rfl) U.heap.size 70 i0 _ 2 16 Tryz.underlying138 hi0 hz0 hz1 hz2 rfl (by omega) (.slice ya ym yc) (0 + m) ([] ++ evC q) (by simp [Act.eval]) q1.out (some ⟨w5.heap.size, 0, none⟩) 1 1 [.int .i64 x1, .int .i64 x2] (by simp [Act.eval]) rfl q2.out (one2 _ _) (by unfold maxLen; omega) (by omega) q3.out ?_; intro v6 w6 hown hgrow _; obtain ⟨za, zm, zc, rfl⟩ := row_form hown; have B6 := hid (ev_second B5.out (below1 w5 _) O5.out hgrow); have O6 := hid hown; have SY := hid (fS.out w6 B6.out); obtain ⟨s6, t6⟩ := fg.out w6 B6.out; clear hown hgrow)
      | (refine step_append_opt _ (by rfl) _ _ _ (by rfl) U.heap.size 70 i0 _ 2 16 Tryz.underlying138 hi0 hz0 hz1 hz2 rfl (by omega) (.slice ya ym yc) (0 + m) ([] ++ evC q) (by simp [Act.eval]) O5.out (some ⟨U.heap.size + 1, 0, none⟩) 1 1 [.int .i64 x1, .int .i64 x2] (by simp [Act.eval]) rfl (news_two E5.out) (one2 _ _) (by unfold maxLen; omega) (by omega) (Nat.le_trans B5.out.size (Below.refl w5.heap.size w5).size) ?_; intro v6 w6 hown hgrow _; obtain ⟨za, zm, zc, rfl⟩ := row_form hown; have B6 := hid (ev_second B5.out (Below.refl w5.heap.size w5) O5.out hgrow); have O6 := hid hown; have SY := hid (fS.out w6 B6.out); obtain ⟨s6, t6⟩ := fg.out w6 B6.out; clear hown hgrow)
      | (refine step_append_opt _ (by rfl) _ _ _ (by rfl) U.heap.size 70 i0 _ 2 16 Tryz.underlying138 hi0 hz0 hz1 hz2 rfl (by omega) (.slice ya ym yc) (0 + m) ([] ++ evC q) (by simp [Act.eval]) O5.out (some ⟨U.heap.size, 0, none⟩) 1 1 [.int .i64 x1, .int .i64 x2] (by simp [Act.eval]) rfl (news_two E5.out) (one2 _ _) (by unfold maxLen; omega) (by omega) (Nat.le_trans B5.out.size (Below.refl w5.heap.size w5).size) ?_; intro v6 w6 hown hgrow _; obtain ⟨za, zm, zc, rfl⟩ := row_form hown; have B6 := hid (ev_second B5.out (Below.refl w5.heap.size w5) O5.out hgrow); have O6 := hid hown; have SY := hid (fS.out w6 B6.out); obtain ⟨s6, t6⟩ := fg.out w6 B6.out; clear hown hgrow))
  all_goals
    go_wp2
    go_ret
    have X6 : EvRow w6 B (.slice za zm zc) (q ++ [(x1, x2)]) := row_base (by rw [evC_append, List.length_append, ← HM.out]; simpa [evC] using O6.out) sB.out
    obtain ⟨cs, hcs⟩ := own_cells (HE.out.below B6.out).wk.q.row
    exact ⟨rfl, ⟨_, HE.out.put B6.out X6 hi⟩, ((BU.out.mono hB).trans (B6.out.mono sB.out)).setCell (HE.out.wk.q.row.lt g rfl).1 _, ((Kp.below BU.out).trans (Kp.below B6.out)).trans (Kp.set hcs (by decide) _)⟩
theorem put_anyK (B H g n c ob off en ec : Nat) (sv tv L V D E F : Value) (Ra : Option Addr) (Rn Rc : Nat) (k : KerD) (vs vq vd : List Value) (rs : List (Int × Int × Int)) (os : List ObD) (i : Nat) (x1 x2 : Int) (w : World) (hB : B ≤ w.heap.size) (hl : rs.length ≤ 1048576) (hi : i < k.qs.length) (hq : k.qs.length ≤ 1048576) (hin : i < en) (hqi : (k.qs.getD i []).length ≤ 1048576) (hen : en ≤ 1048576) (hc : w.cell? ⟨ob, off + i * 8 + 1, none⟩ = some (.int .i64 (os.getD i ob0).qcap))
    (h : Wb w B H sv (.slice (some ⟨ob, off, none⟩) en ec) tv L V (.slice (some ⟨g, 0, none⟩) n c) D E F (.slice Ra Rn Rc) k vs vq vd rs) :
    Calls Tryz.prog 33 #[.pointer (some ⟨H, 0, none⟩), .int .i64 i, .agg #[.int .i64 x1, .int .i64 x2], .bool false] w fun e w' => (∃ b, e = .returned (.bool b)) ∧ (∃ ra rn rc vq', Wb w' B H sv (.slice (some ⟨ob, off, none⟩) en ec) tv L V (.slice (some ⟨g, 0, none⟩) n c) D E F (.slice ra rn rc) (putK os k rs i (x1, x2)).1 vs vq' vd (putK os k rs i (x1, x2)).2) ∧ Below B w w' ∧ Kp [3] w w' := by
  by_cases hf : (os.getD i ob0).qcap ≤ ((k.qs.getD i []).length : Int)
  · have e : putK os k rs i (x1, x2) = (k, rs ++ [(2, (i : Int), x1)]) := by unfold putK; rw [if_pos hf]
    rw [e]
    refine (put_fullK B H g n c ob off en ec sv tv L V D E F _ k vs vq vd rs i x1 x2 _ w hB hl hi hq hin hqi hen hc hf h).mono ?_
    rintro e w' ⟨rfl, ra, rn, rc, hw, hb, hk⟩
    exact ⟨⟨_, rfl⟩, ⟨ra, rn, rc, vq, hw⟩, hb, hk⟩
  · have e : putK os k rs i (x1, x2) = ({ k with qs := k.qs.set i (k.qs.getD i [] ++ [(x1, x2)]) }, rs) := by unfold putK; rw [if_neg hf]
    rw [e]
    refine (put_roomK B H g n c ob off en ec sv tv L V D E F _ k vs vq vd rs i x1 x2 _ w hB hi hq hin hqi hen hc hf h).mono ?_
    rintro e w' ⟨rfl, ⟨x, hw⟩, hb, hk⟩
    exact ⟨⟨_, rfl⟩, ⟨_, _, _, _, hw⟩, hb, hk⟩
end Go.Proofs.YthaklmdhkkfigaaGreat
namespace Go.Proofs.YthaklmdhkkfigaaGreat
open Go.RowKit Go.Sort
set_option linter.unusedVariables false
attribute [local go_sem ↓] Go.wp_at_zero Go.wp_at_succ

theorem Tryz.infoBl : (Tryz.prog.info? 4).map (fun i => (i.zero, i.size, i.bytes)) = some (some (.bool false), 1, 1) := by kernel_rfl
def bls (os : List ObD) (z : Int) (t : Nat) : List Value := (List.range t).map (fun i => Value.bool (onB os z i))
theorem bls_succ (os : List ObD) (z : Int) (t : Nat) : bls os z (t + 1) = bls os z t ++ [.bool (onB os z t)] := by unfold bls; rw [List.range_succ, List.map_append]; rfl
/-- The row of marks, as far as it has come. -/
structure Bl (w X : World) (lv : Value) (t : Nat) (os : List ObD) (z : Int) : Prop where
  bel : Below w.heap.size w X
  o : X.ownsRow w.heap.size 4 1 lv t (bls os z t)
theorem Bl.below {w X Y : World} {lv : Value} {t : Nat} {os : List ObD} {z : Int} (h : Bl w X lv t os z) (hb : Below X.heap.size X Y) : Bl w Y lv t os z := ⟨h.bel.trans (hb.mono h.bel.size), ownsRow_below h.o hb⟩
theorem Bl.grown {w X Y : World} {lv : Value} {g cap t : Nat} {os : List ObD} {z : Int} (h : Bl w X lv t os z) (hg : X.grownBy Y lv.ownBlock) (ho : Y.ownsRow w.heap.size 4 1 (.slice (some ⟨g, 0, none⟩) (t + 1) cap) (t + 1) (bls os z (t + 1))) : Bl w Y (.slice (some ⟨g, 0, none⟩) (t + 1) cap) (t + 1) os z :=
  ⟨h.bel.trans ⟨hg.os, hg.tape, hg.output, hg.size, fun k hk => hg.block k (Nat.lt_of_lt_of_le hk h.bel.size) (fun e => by have := (h.o.lt k e.symm).1; omega)⟩, ho⟩
theorem take_has {us : List Int} {z : Int} {s : Nat} (h : s < us.length) : (us.take (s + 1)).contains z = ((us.take s).contains z || decide (us.getD s 0 = z)) := by
  have e : us.take (s + 1) = us.take s ++ [us.getD s 0] := by rw [List.take_add_one, List.getElem?_eq_getElem h, List.getD_eq_getElem?_getD, List.getElem?_eq_getElem h]; rfl
  rw [e]
  generalize us.take s = a
  generalize us.getD s 0 = u
  by_cases h1 : z ∈ a <;> by_cases h2 : u = z <;> simp [h1, h2, eq_comm (a := z)]
set_option maxRecDepth 100000 in
set_option maxHeartbeats 8000000 in
theorem publish_any (B H g n c ob off en ec xn xc : Nat) (sg sig arg : Int) (xo : Option Addr) (L V D E F : Value) (Ra : Option Addr) (Rn Rc : Nat) (k : KerD) (vs vq vd : List Value) (os : List ObD) (ts : List (Int × Int)) (w : World) (hB : B ≤ w.heap.size) (hen1 : 1 ≤ en) (hen : en ≤ 64) (hf : FitsKer k) (hy : kerB sg os ts k = true)
    (hE : ∀ Y, Below B w Y → ObsOf Y (some ⟨ob, off, none⟩) en os)
    (h : Wb w B H (.int .i64 sg) (.slice (some ⟨ob, off, none⟩) en ec) (.slice xo xn xc) L V (.slice (some ⟨g, 0, none⟩) n c) D E F (.slice Ra Rn Rc) k vs vq vd []) :
    Calls Tryz.prog 57 #[.pointer (some ⟨H, 0, none⟩), .int .i64 sig, .int .i64 arg] w fun e w' => e = .returned (.tuple #[]) ∧ (∃ ra rn rc vq', Wb w' B H (.int .i64 sg) (.slice (some ⟨ob, off, none⟩) en ec) (.slice xo xn xc) L V (.slice (some ⟨g, 0, none⟩) n c) D E F (.slice ra rn rc) (pubK os k (pubL os sig) (sig, arg)).1 vs vq' vd (pubK os k (pubL os sig) (sig, arg)).2) ∧ Below B w w' := by
  obtain ⟨i0, hi0, hz0, hz1, hz2⟩ := info_parts Tryz.infoBl
  have HL : Hid (os.length = en) := hid (hE w (Below.refl _ _)).1
  have HE := hid hE
  have HY := hid hy
  have HF := hid hf
  have HW := hid h
  have HB := hid hB
  obtain ⟨⟨y0, y1, y2⟩, _, _⟩ := ten_cells h.o
  have hHl := lt_of_block h.o
  have A0 : Hid (Bl w (w.alloc (.cells #[] 4)) (.slice (some ⟨w.heap.size, 0, none⟩) 0 0) 0 os sig) := hid ⟨below1 _ _, by
    have h := World.ownsRow_lit w (e := 4) (size := 1) (base := w.heap.size) #[] 0 (by simp) (by decide) rfl
    simpa [bls] using h⟩
  have LL := hid (pubL_len (sys_p hy) sig)
  have LT := hid (fun x hx => pubL_lt (os := os) (z := sig) (x := x) hx)
  have PI := hid (fun s hs => pbi (ker_qok hy) (sig, arg) (pubL os sig) s hs)
  obtain ⟨l, hl⟩ : ∃ l, l = pubL os sig := ⟨_, rfl⟩
  rw [← hl] at LL LT PI ⊢
  obtain ⟨m, hm⟩ : ∃ m, m = l.length := ⟨_, rfl⟩
  rw [← hm] at LL PI
  have HM := hid hm
  have HLl := hid hl
  have PT : Hid (pubK os k (l.take m) (sig, arg) = pubK os k l (sig, arg)) := hid (by rw [hm, List.take_length])
  have m64 : m ≤ 64 := by have := LL.out; have := HL.out; omega
  clear LL hl hm
  clear h hE hy hf hB
  go_enter Tryz.func57, Tryz.ntmps57
  go_wp2_with fail
  clear y0 y1 y2 hHl
  go_loopg [6, 21] en (fun mm lv ix X => ∃ t : Nat, t ≤ en ∧ mm = en - t ∧ ix = .int .i64 t ∧ Bl w X lv t os sig)
  case atStart => exact ⟨0, by omega, by omega, rfl, A0.out⟩
  case round =>
    obtain ⟨t, ht, rfl, rfl, hC⟩ := hrel
    obtain ⟨ao, cap, hv⟩ := slice_of hC.o
    have CC := hid hC
    subst hv
    by_cases hlt : t < en
    · have ti : (t : Int) < (en : Int) := by omega
      obtain ⟨tb, off', e1, htl, htc⟩ := (HE.out wr (hC.bel.mono HB.out)).2 (by omega)
      simp only [Option.some.injEq, Addr.mk.injEq, and_true] at e1
      obtain ⟨rfl, rfl⟩ := e1
      obtain ⟨⟨ko, kn, kc, vo, vn, vc, uo, un, uc, so, sn, sc, tz, tn, tc⟩, ⟨x0, x1, x2, x3, x4, x5, x6, x7⟩, ⟨_, _, hum, _, _, _⟩, ⟨_, _, hu, _, _⟩⟩ := htc t hlt
      dsimp only at x0 x1 x2 x3 x4 x5 x6 x7 hu hum
      obtain ⟨us, hus⟩ : ∃ x, x = (os.getD t ob0).subs := ⟨_, rfl⟩
      obtain ⟨pv, hpv⟩ : ∃ x, x = (os.getD t ob0).prio := ⟨_, rfl⟩
      obtain ⟨qv, hqv⟩ : ∃ x, x = (os.getD t ob0).qcap := ⟨_, rfl⟩
      obtain ⟨dv, hdv⟩ : ∃ x, x = (os.getD t ob0).dcap := ⟨_, rfl⟩
      rw [← hpv] at x0
      rw [← hqv] at x1
      rw [← hdv] at x2
      rw [← hus] at hu
      have ON : Hid (onB os sig t = us.contains sig) := hid (by unfold onB; rw [hus])
      obtain ⟨W1, hW1⟩ : ∃ W, W = wr.alloc (.cells #[.int .i64 pv, .int .i64 qv, .int .i64 dv, .slice ko kn kc, .slice vo vn vc, .slice uo un uc, .slice so sn sc, .slice tz tn tc] 134) := ⟨_, rfl⟩
      have BW : Below wr.heap.size wr W1 := by rw [hW1]; exact below1 _ _
      have C1 := hid (CC.out.below BW)
      have U1 := hid (hu.below BW)
      have UL := hid hu.1
      clear hC htc hu hus hpv hqv hdv BW
      go_upto_region 6 with fail
      rw [← hW1]
      clear hW1 x0 x1 x2 x3 x4 x5 x6 x7
      go_loopg [9, 28] un (fun mm bv ix X => ∃ s : Nat, s ≤ un ∧ mm = un - s ∧ ix = .int .i64 s ∧ bv = .bool ((us.take s).contains sig) ∧ Below W1.heap.size W1 X)
      case atStart => exact ⟨0, by omega, by omega, rfl, by simp, Below.refl _ _⟩
      case round =>
        obtain ⟨s, hs, rfl, rfl, rfl, hD⟩ := hrel
        by_cases hst : s < un
        · have si : (s : Int) < (un : Int) := by omega
          obtain ⟨ub, uoff, rfl, hul, huc⟩ := U1.out.2 (by omega)
          have y := (hD.cell (p := ⟨ub, uoff + s, none⟩) hul).trans (huc s hst)
          obtain ⟨uz, huz⟩ : ∃ x, x = us.getD s 0 := ⟨_, rfl⟩
          rw [← huz] at y
          obtain ⟨bb, hbb⟩ : ∃ x, x = (us.take s).contains sig := ⟨_, rfl⟩
          have NX : Hid ((us.take (s + 1)).contains sig = (bb || decide (uz = sig))) := hid (by rw [take_has (by rw [UL.out]; exact hst), hbb, huz])
          have DD := hid hD
          rw [← hbb]
          clear hD huc huz hbb
          cases bb with
          | true =>
            go_wp2_with fail
            go_roundg (un - (s + 1))
            case measure => omega
            case rel => exact ⟨s + 1, by omega, rfl, by go_num, by rw [NX.out]; simp, DD.out⟩
          | false =>
            by_cases hz : uz = sig
            · subst hz
              go_wp2_with fail
              go_roundg (un - (s + 1))
              case measure => omega
              case rel => exact ⟨s + 1, by omega, rfl, by go_num, by rw [NX.out]; simp, DD.out⟩
            · go_wp2_with fail
              go_roundg (un - (s + 1))
              case measure => omega
              case rel => exact ⟨s + 1, by omega, rfl, by go_num, by rw [NX.out]; simp [hz], DD.out⟩
        · obtain rfl : s = un := by omega
          have EB : Hid ((us.take s).contains sig = onB os sig t) := hid (by rw [ON.out, ← UL.out, List.take_length])
          have D1 := hid (C1.out.below hD)
          obtain ⟨bb, hbb⟩ : ∃ x, x = onB os sig t := ⟨_, rfl⟩
          rw [EB.out, ← hbb]
          have HBB := hid hbb
          have snl : ¬ (s : Int) < (s : Int) := by omega
          clear hD hbb
          go_wp2_with (at_builtin; refine wpList_append_lies _ rfl (.tmp 39) (.tmp 41) 169 rfl w.heap.size 4 i0 _ 1 1 Tryz.underlying169 hi0 hz0 hz1 hz2 rfl (by decide) _ _ _ rfl (D1.out.below (below1 _ _)).o ⟨wr.heap.size, 0, none⟩ 1 1 [.bool bb] rfl rfl (by simpa using news_one wr (.bool bb) 4) (by intro u hu; simp at hu; subst hu; rfl) (by omega) (by unfold maxLen; omega) (by omega) (by have := D1.out.bel.size; simp; omega) (wr.heap.size + 1) (by simp) ?_)
          intro g2 cap' w2 hown hgrow hat _
          have D2 := hid ((D1.out.below (below1 wr _)).grown hgrow (by rw [bls_succ, ← HBB.out]; exact hown))
          clear hown hgrow hat
          go_wp2
          go_roundg (en - (t + 1))
          case measure => omega
          case rel => exact ⟨t + 1, by omega, rfl, by simp, by simpa using D2.out⟩
    · obtain rfl : t = en := by omega
      obtain ⟨W1, hW1⟩ : ∃ W, W = wr := ⟨_, rfl⟩
      subst hW1
      obtain ⟨gb, cb, e1, _, gbl⟩ := World.ownsRow.form CC.out.o (by omega)
      simp only [Value.slice.injEq, true_and] at e1
      obtain ⟨rfl, rfl⟩ := e1
      have W2 := hid (HW.out.below CC.out.bel)
      have PL := hid (byPrio_any sg (some ⟨ob, off, none⟩) xo t ec xn xc os sig gb cap W1 hen (HE.out W1 (CC.out.bel.mono HB.out)) gbl (fun i hi => by rw [World.ownsRow.cellAt CC.out.o i (by omega)]; simp [bls, hi]))
      unfold sysV at PL
      rw [← HLl.out, ← HM.out] at PL
      obtain ⟨⟨y0, y1, y2⟩, _, _⟩ := ten_cells W2.out.o
      have hHl := lt_of_block W2.out.o
      have B0 := hid CC.out.bel
      have tnl : ¬ (t : Int) < (t : Int) := by omega
      clear hC CC
      have CL := hid PL.out
      go_upto_region 13 with (go_at_call 88; with_reducible refine PL.out.mono ?_; rintro e w3 ⟨lv, rfl, ho, hb⟩; have O3 := hid ho; have B3 := hid hb; obtain ⟨la, lc, rfl⟩ := slice_of ho; clear ho hb)
      have W3 := hid (W2.out.below B3.out)
      have BB3 : Hid (Below B w w3) := hid (B0.out.trans (B3.out.mono B0.out.size) |>.mono HB.out)
      have FB : Hid (w.heap.size ≤ W1.heap.size) := hid B0.out.size
      clear y0 y1 y2 hHl PL CL W2
      go_loopg [51] m (fun mm ix X => ∃ (s : Nat) (ra : Option Addr) (rn rc : Nat) (vq' : List Value), s ≤ m ∧ mm = m - s ∧ ix = .int .i64 s ∧ Hid (Wb X B H (.int .i64 sg) (.slice (some ⟨ob, off, none⟩) t ec) (.slice xo xn xc) L V (.slice (some ⟨g, 0, none⟩) n c) D E F (.slice ra rn rc) (pubK os k (l.take s) (sig, arg)).1 vs vq' vd (pubK os k (l.take s) (sig, arg)).2) ∧ Hid (X.ownsRow W1.heap.size 3 1 (.slice la m lc) m (ints l)) ∧ Hid (Below B w X))
      case atStart => exact ⟨0, Ra, Rn, Rc, vq, Nat.zero_le _, by omega, rfl, W3, O3, BB3⟩
      case round =>
        clear W3 O3 BB3
        obtain ⟨s, ra, rn, rc, vq', hs, rfl, rfl, HWs, HOs, HBs⟩ := hrel
        by_cases hlt : s < m
        · have si : (s : Int) < (m : Int) := by omega
          have hsl : s < l.length := by rw [← HM.out]; exact hlt
          obtain ⟨i, hi⟩ : ∃ i, i = l[s] := ⟨_, rfl⟩
          obtain ⟨gl, hgl⟩ : ∃ gl, la = some ⟨gl, 0, none⟩ := by
            obtain ⟨g', cap', e, _⟩ := World.ownsRow.form HOs.out (by omega)
            simp only [Value.slice.injEq] at e
            exact ⟨g', e.1⟩
          subst hgl
          have ci : wr.cell? ⟨gl, s, none⟩ = some (.int .i64 (i : Int)) := by
            rw [World.ownsRow.cellAt HOs.out s (by omega), hi]
            simp [ints, hsl]
          have ios : i < os.length := LT.out i (by rw [hi]; exact List.getElem_mem hsl)
          have ie : i < t := by rw [← HL.out]; exact ios
          have TS : Hid (pubK os k (l.take (s + 1)) (sig, arg) = putK os (pubK os k (l.take s) (sig, arg)).1 (pubK os k (l.take s) (sig, arg)).2 i (sig, arg)) := hid (by
            rw [List.take_add_one, List.getElem?_eq_getElem hsl, hi]
            exact pubK_snoc _ _ _ _ _)
          have PB := hid (PI.out s hs)
          obtain ⟨kS, hkS⟩ : ∃ x, x = (pubK os k (l.take s) (sig, arg)).1 := ⟨_, rfl⟩
          obtain ⟨rS, hrS⟩ : ∃ x, x = (pubK os k (l.take s) (sig, arg)).2 := ⟨_, rfl⟩
          rw [← hkS, ← hrS] at HWs TS
          have PB2 : Hid (PbI os k s (kS, rS)) := hid (by rw [hkS, hrS]; exact PB.out)
          have kp : lenP os ts k := by have hd := HY.out; unfold kerB at hd; exact (of_decide_eq_true hd).2.1
          have QL : kS.qs.length = os.length := PB2.out.q.trans kp.1.2.2.1
          have QI : (kS.qs.getD i []).length ≤ 1048576 := by have h1 := PB2.out.qo i ios; have h2 := (ob_caps HY.out ios).1; have h3 : (kS.qs.getD i []).length ≤ (os.getD i ob0).qcap.toNat := h1; omega
          have RL : rS.length ≤ 1048576 := by have h1 : rS.length ≤ s := PB2.out.r; omega
          have CA : wr.cell? ⟨ob, off + i * 8 + 1, none⟩ = some (.int .i64 (os.getD i ob0).qcap) := by
            obtain ⟨tb, off', e1, _, htc⟩ := (HE.out wr HBs.out).2 (by omega)
            simp only [Option.some.injEq, Addr.mk.injEq, and_true] at e1
            obtain ⟨rfl, rfl⟩ := e1
            obtain ⟨_, hc, _, _⟩ := htc i ie
            exact hc.c1
          have OL := HL.out
          have CP := hid (put_anyK B H g n c ob off t ec (.int .i64 sg) (.slice xo xn xc) L V D E F ra rn rc kS vs vq' vd rS os i sig arg wr (Nat.le_trans HB.out (Nat.le_trans (Nat.le_refl _) (HBs.out.size))) RL (by omega) (by omega) ie QI (by omega) CA HWs.out)
          have gll := World.block_lt_of_cell? wr _ ci
          clear PB hkS hrS hi kp QL QI RL CA OL
          go_wp2_with (go_at_call 33; with_reducible refine CP.out.mono ?_; rintro e w6 ⟨⟨bb, rfl⟩, ⟨ra6, rn6, rc6, vq6, hw⟩, hb, hk⟩; have W6 := hid hw; have B6 := hid (HBs.out.trans hb); have O6 := hid (hk.own HOs.out (by simp)); clear hw hb hk)
          go_roundg (m - (s + 1))
          case measure => omega
          case rel => exact ⟨s + 1, ra6, rn6, rc6, vq6, hlt, rfl, by go_num, hid (by rw [TS.out]; exact W6.out), O6, B6⟩
        · have hnl : ¬ ((s : Int) < (m : Int)) := by omega
          have ETX : Hid (s = m) := hid (by omega)
          have P2 : Hid (pubK os k (l.take s) (sig, arg) = pubK os k l (sig, arg)) := hid (by rw [ETX.out]; exact PT.out)
          go_wp2_with fail
          go_end0
          exact ⟨rfl, ⟨ra, rn, rc, vq', by have := HWs.out; rw [P2.out] at this; exact this⟩, HBs.out⟩
end Go.Proofs.YthaklmdhkkfigaaGreat
namespace Go.Proofs.YthaklmdhkkfigaaGreat
open Go.RowKit Go.Sort
set_option linter.unusedVariables false
attribute [local go_sem ↓] Go.wp_at_zero Go.wp_at_succ

theorem pb_fits {sg : Int} {os : List ObD} {ts : List (Int × Int)} {kd : KerD} (hy : kerB sg os ts kd = true) (hf : FitsKer kd) (l : List Nat) (x : Int × Int) : FitsKer (pubK os kd l x).1 := by
  have g := pbi (ker_qok hy) x l l.length (Nat.le_refl _)
  rw [List.take_length] at g
  have hl : lenP os ts kd := by have hd := hy; unfold kerB at hd; exact (of_decide_eq_true hd).2.1
  refine ⟨by rw [g.l]; exact hf.fl, by rw [g.v]; exact hf.fv, ⟨by rw [g.q]; exact hf.fq.1, fun i hi => ?_⟩, by rw [g.d]; exact hf.fp, by rw [g.e]; exact hf.fe, by rw [g.f]; exact hf.ff⟩
  rw [g.q, hl.1.2.2.1] at hi
  have h1 := g.qo i hi
  have h2 := (ob_caps hy hi).1
  omega
set_option maxRecDepth 100000 in
set_option maxHeartbeats 1600000 in
theorem specPublish_no (sg sig arg : Int) (eo xo : Option Addr) (en ec xn xc : Nat) (os : List ObD) (ts : List (Int × Int)) (h : KerS) (kd : KerD) (w : World) (hen : en ≤ 9223372036854775807) (hec : en ≤ ec) (hxn : xn ≤ 9223372036854775807) (hm : KerMax h) (he : ObsOf w eo en os) (hx : ItemsOf w xo xn ts) (hk : KerOf w h kd) (hno : kerB sg os ts kd = false) :
    Calls Tryz.prog 20 #[sysV sg eo xo en ec xn xc, kerV h, .int .i64 sig, .int .i64 arg] w fun e w' => Ans w w' e (kd0, []) := by
  have HC := hid (fun W (hW : Below w.heap.size w W) => specKernelOK_any sg eo xo en ec xn xc os ts h kd W hen hec hxn hm (he.below hW) (hx.below hW) (hk.below hW))
  rw [hno] at HC
  obtain ⟨lo, ln, lc, vo, vn, vc, qo, qn, qc, po, pn, pc, fo, fn, fc, go, gn, gc⟩ := h
  unfold kerV at HC ⊢
  dsimp only at HC ⊢
  clear he hx hk hm hno
  have B3 := hid (below3 w (.cells #[.int .i64 sg, .slice eo en ec, .slice xo xn xc] 42) (.cells #[.slice lo ln lc, .slice vo vn vc, .slice qo qn qc, .slice po pn pc, .slice fo fn fc, .slice go gn gc] 35) OZ)
  go_enter Tryz.func20, Tryz.ntmps20
  go_wp2_with (go_at_call 29; with_reducible refine (HC.out _ B3.out).mono ?_; rintro e w1 ⟨rfl, hb⟩; have R1 := block_below (heap_alloc_new ((w.alloc (.cells #[.int .i64 sg, .slice eo en ec, .slice xo xn xc] 42)).alloc (.cells #[.slice lo ln lc, .slice vo vn vc, .slice qo qn qc, .slice po pn pc, .slice fo fn fc, .slice go gn gc] 35)) OZ) hb; simp only [World.size_alloc] at R1; obtain ⟨y0, y1, y2, y3, y4, y5⟩ := six_cells R1; obtain ⟨f0, f1, f2, f3, f4, f5⟩ := six_froz R1; have hl := lt_of_block R1; have RH := hid R1; have BB := hid (B3.out.trans (hb.mono B3.out.size)); clear R1 hb)
  have S6 := set6 (a := nilV) (b := nilV) (c := nilV) (d := nilV) (e := nilV) (f := nilV) RH.out BB.out (by omega)
  have SB := below1 (put6 w1 (w.heap.size + 1 + 1) nilV nilV nilV nilV nilV nilV) (.cells #[] 106)
  obtain ⟨q0, q1, q2, q3, q4, q5⟩ := six_cells (block_below S6.1 SB)
  refine bodyPost_ret (v := .tuple #[kerV ks0, .slice (some ⟨w1.heap.size, 0, none⟩) 0 0]) (by simp [results, Tryz.results20, go_sem, q0, q1, q2, q3, q4, q5, kerV]) rfl ?_
  have hs : (put6 w1 (w.heap.size + 1 + 1) nilV nilV nilV nilV nilV nilV).heap.size = w1.heap.size := by simp
  have RL := World.ownsRow_lit (put6 w1 (w.heap.size + 1 + 1) nilV nilV nilV nilV nilV nilV) (e := 106) (size := 3) (base := w.heap.size) #[] 0 S6.2.2.size (by decide) rfl
  rw [hs] at RL
  exact ⟨ks0, _, 0, 0, rfl, ker0 _, ⟨by simp, by simp, by simp, by simp, by simp, by simp⟩, ⟨rfl, fun h => absurd h (by simp)⟩, S6.2.2.trans (SB.mono S6.2.2.size), _, w.heap.size, [], [], [], ⟨Nat.le_refl _, Nat.le_refl _⟩, wk_nil _ _, RL⟩
set_option maxRecDepth 100000 in
set_option maxHeartbeats 3200000 in
theorem specPublish_yes (sg sig arg : Int) (eo xo : Option Addr) (en ec xn xc : Nat) (os : List ObD) (ts : List (Int × Int)) (h : KerS) (kd : KerD) (w : World) (hen : en ≤ 9223372036854775807) (hec : en ≤ ec) (hxn : xn ≤ 9223372036854775807) (hm : KerMax h) (hf : FitsKer kd) (he : ObsOf w eo en os) (hx : ItemsOf w xo xn ts) (hk : KerOf w h kd) (hyes : kerB sg os ts kd = true) :
    Calls Tryz.prog 20 #[sysV sg eo xo en ec xn xc, kerV h, .int .i64 sig, .int .i64 arg] w fun e w' => Ans w w' e (publishK sg os ts kd sig arg) := by
  have HY := hid hyes
  have HC := hid (fun W (hW : Below w.heap.size w W) => specKernelOK_any sg eo xo en ec xn xc os ts h kd W hen hec hxn hm (he.below hW) (hx.below hW) (hk.below hW))
  rw [hyes] at HC
  have HK := hid (fun W (hW : Below w.heap.size w W) => l4Copy_any h kd W hf (hk.below hW))
  have HE : Hid (∀ W, Below w.heap.size w W → ObsOf W eo en os) := hid (fun W hW => he.below hW)
  have HO := hid he.1
  have HF := hid hf
  have KP : (sysFault sg os ts).1 = 0 ∧ lenP os ts kd := by unfold kerB at hyes; have := of_decide_eq_true hyes; exact ⟨this.1, this.2.1⟩
  have CN := sys_cnt KP.1
  have HQ := hid KP.2.1.2.2.1
  have XN : Hid (xn ≤ 200) := hid (by have h1 := CN.2.2; have h2 := hx.1; omega)
  obtain ⟨⟨sg1, sg2⟩, ⟨on1, on2⟩, _⟩ := CN
  rw [he.1] at on1 on2
  obtain ⟨lo, ln, lc, vo, vn, vc, qo, qn, qc, po, pn, pc, fo, fn, fc, go, gn, gc⟩ := h
  unfold kerV at HC HK ⊢
  dsimp only at HC HK ⊢
  have HXT : Hid (∀ W, Below w.heap.size w W → ItemsOf W xo xn ts) := hid (fun W hW => hx.below hW)
  have HYY := hid hyes
  have QK := hid (ker_qok hyes)
  have LEN := hid KP.2
  clear he hx hk hm hyes KP hf
  have B3 := hid (below3 w (.cells #[.int .i64 sg, .slice eo en ec, .slice xo xn xc] 42) (.cells #[.slice lo ln lc, .slice vo vn vc, .slice qo qn qc, .slice po pn pc, .slice fo fn fc, .slice go gn gc] 35) OZ)
  go_enter Tryz.func20, Tryz.ntmps20
  go_upto_region 3 with (go_at_call 29; with_reducible refine (HC.out _ B3.out).mono ?_; rintro e w1 ⟨rfl, hb⟩; have R1 := block_below (heap_alloc_new ((w.alloc (.cells #[.int .i64 sg, .slice eo en ec, .slice xo xn xc] 42)).alloc (.cells #[.slice lo ln lc, .slice vo vn vc, .slice qo qn qc, .slice po pn pc, .slice fo fn fc, .slice go gn gc] 35)) OZ) hb; have R2 := block_below (block_below (heap_alloc_new (w.alloc (.cells #[.int .i64 sg, .slice eo en ec, .slice xo xn xc] 42)) (.cells #[.slice lo ln lc, .slice vo vn vc, .slice qo qn qc, .slice po pn pc, .slice fo fn fc, .slice go gn gc] 35)) (below1 _ OZ)) hb; have R3 := block_below (block_below (heap_alloc_new w (.cells #[.int .i64 sg, .slice eo en ec, .slice xo xn xc] 42)) (below2 _ _ _)) hb; simp only [World.size_alloc] at R1 R2; have RH := hid R1; have RK := hid R2; have RS := hid R3; have BB := hid (B3.out.trans (hb.mono B3.out.size)); clear R1 R2 R3 hb)
  obtain ⟨k0, k1, k2, k3, k4, k5⟩ := six_cells RK.out
  obtain ⟨s0, s1, s2⟩ := three_cells RS.out
  have rl := lt_of_block RH.out
  go_region_held3 (fun X => (X.cell? ⟨w.heap.size, 0, none⟩ = some (.int .i64 sg) ∧ X.cell? ⟨w.heap.size, 1, none⟩ = some (.slice eo en ec) ∧ X.cell? ⟨w.heap.size, 2, none⟩ = some (.slice xo xn xc)) ∧ (X.cell? ⟨w.heap.size + 1, 0, none⟩ = some (.slice lo ln lc) ∧ X.cell? ⟨w.heap.size + 1, 1, none⟩ = some (.slice vo vn vc) ∧ X.cell? ⟨w.heap.size + 1, 2, none⟩ = some (.slice qo qn qc) ∧ X.cell? ⟨w.heap.size + 1, 3, none⟩ = some (.slice po pn pc) ∧ X.cell? ⟨w.heap.size + 1, 4, none⟩ = some (.slice fo fn fc) ∧ X.cell? ⟨w.heap.size + 1, 5, none⟩ = some (.slice go gn gc))) (first | (with_reducible exact SX.out) | (with_reducible exact SZ.out _) | go_keep)
    (first
      | (go_at_call 30; with_reducible refine (HK.out _ BB.out.drew).mono ?_; rintro e w2 ⟨⟨lo', ln', lc', vo', vn', vc', qo', qn', qc', po', pn', pc', eo', en', ec', fo', fn', fc'⟩, vs, vq, vd, rfl, hwk, hb⟩; dsimp only at hwk ⊢; have hb' := undrewK hb; have WK2 := hid (wk_drew hwk); have B2 := hid hb'; have RH2 := hid (block_below RH.out hb'); have RS2 := hid (block_below RS.out hb'); have RK2 := hid (block_below RK.out hb'); have SX := hid (And.intro (three_cells RS2.out) (six_cells RK2.out)); have SZ : Hid (∀ o, _ ∧ _) := hid (fun o => And.intro (three_cells (block_below RS2.out (below1 w2 o))) (six_cells (block_below RK2.out (below1 w2 o)))); clear hwk hb hb'))
  clear SZ SX k0 k1 k2 k3 k4 k5 s0 s1 s2
  obtain ⟨HB, hHB⟩ : ∃ HB, HB = w2.heap.size := ⟨_, rfl⟩
  obtain ⟨X3, hX3⟩ : ∃ X3, X3 = w2.alloc (.cells #[.int .i64 sg, .slice eo en ec, .slice xo xn xc, .slice lo' ln' lc', .slice vo' vn' vc', .slice qo' qn' qc', .slice po' pn' pc', .slice eo' en' ec', .slice fo' fn' fc', .slice none 0 0] 65) := ⟨_, rfl⟩
  have W3 : Hid (Wb X3 w1.heap.size HB (.int .i64 sg) (.slice eo en ec) (.slice xo xn xc) (.slice lo' ln' lc') (.slice vo' vn' vc') (.slice qo' qn' qc') (.slice po' pn' pc') (.slice eo' en' ec') (.slice fo' fn' fc') nilV kd vs vq vd []) := hid (by rw [hX3, hHB]; exact WK2.out.box B2.out.size)
  have B3x : Hid (Below w2.heap.size w2 X3) := hid (by rw [hX3]; exact below1 _ _)
  have RH3 := hid (block_below RH2.out B3x.out)
  have RS3 := hid (block_below RS2.out B3x.out)
  have B13 := hid (B2.out.trans (B3x.out.mono B2.out.size))
  have s3 := hid B13.out.size
  rw [← hX3, ← hHB]
  clear hX3 hHB
  obtain ⟨s0, s1, s2⟩ := three_cells RS3.out
  have sl := lt_of_block RS3.out
  have hHl := lt_of_block W3.out.o
  by_cases h2 : 0 ≤ sig ∧ sig ≤ sg - 1
  · have C2 := hid (l1Between_any sig 0 (sg - 1))
    rw [show betB sig 0 (sg - 1) = true from (betB_yes h2).symm] at C2
    obtain ⟨kS, hkS⟩ : ∃ x, x = (pubK os kd (pubL os sig) (sig, arg)).1 := ⟨_, rfl⟩
    obtain ⟨rS, hrS⟩ : ∃ x, x = (pubK os kd (pubL os sig) (sig, arg)).2 := ⟨_, rfl⟩
    have ES : Hid (publishK sg os ts kd sig arg = (kS, rS)) := hid (by unfold publishK; rw [if_pos HYY.out, if_pos h2, hkS, hrS])
    have FT : Hid (FitsKer kS) := hid (by rw [hkS]; exact pb_fits HYY.out HF.out _ _)
    obtain ⟨ob, off, heo, hobl, hoc⟩ := (HE.out w (Below.refl _ _)).2 on1
    subst heo
    obtain ⟨gq, capq, eq, hgq, _⟩ := World.ownsRow.form W3.out.wk.q.row (by rw [W3.out.wk.q.len, HQ.out, HO.out]; exact on1)
    simp only [Value.slice.injEq] at eq
    obtain ⟨rfl, hqn9, rfl⟩ := eq
    have CP := hid (publish_any w1.heap.size HB gq qn' qc' ob off en ec xn xc sg sig arg xo (.slice lo' ln' lc') (.slice vo' vn' vc') (.slice po' pn' pc') (.slice eo' en' ec') (.slice fo' fn' fc') none 0 0 kd vs vq vd os ts X3 B13.out.size on1 on2 HF.out HYY.out (fun Y hY => HE.out Y (BB.out.trans ((B13.out.trans hY).mono BB.out.size))) W3.out)
    rw [← hkS, ← hrS] at CP
    clear h2 hkS hrS hqn9 hoc
    go_upto_region 7 with (first
      | (go_at_call 31; with_reducible refine (C2.out _).mono ?_; rintro e w5 ⟨rfl, hw5⟩; obtain rfl := hw5.symm)
      | (go_at_call 57; with_reducible refine CP.out.mono ?_; rintro e w6 ⟨rfl, ⟨ra, rn, rc, vq6, hw⟩, hb⟩; have W6 := hid hw; have BW6 := hid (B13.out.trans hb); clear hw hb))
    clear CP C2 HC HK HE s0 s1 s2
    have CK := hid (l4Copy_any ⟨lo', ln', lc', vo', vn', vc', (some ⟨gq, 0, none⟩), qn', qc', po', pn', pc', eo', en', ec', fo', fn', fc'⟩ kS w6.drew FT.out (W6.out.wk.ker (h := ⟨lo', ln', lc', vo', vn', vc', (some ⟨gq, 0, none⟩), qn', qc', po', pn', pc', eo', en', ec', fo', fn', fc'⟩) |>.below (Below.refl _ _).drew))
    unfold kerV at CK
    dsimp only at CK
    have RH6 := hid ((BW6.out.block _ rl).trans RH.out)
    have hB6 := hid BW6.out.size
    have ne1 : ¬ HB = w.heap.size + 1 + 1 := by have := W6.out.hH; omega
    have ne2 : ¬ w.heap.size + 1 + 1 = HB := by omega
    obtain ⟨_, ⟨t3, t4, t5, t6, t7, t8⟩, t9⟩ := ten_cells W6.out.o
    have hH6 := lt_of_block W6.out.o
    go_region_held3 (fun X => (X.cell? ⟨HB, 3, none⟩ = some (.slice lo' ln' lc') ∧ X.cell? ⟨HB, 4, none⟩ = some (.slice vo' vn' vc') ∧ X.cell? ⟨HB, 5, none⟩ = some (.slice (some ⟨gq, 0, none⟩) qn' qc') ∧ X.cell? ⟨HB, 6, none⟩ = some (.slice po' pn' pc') ∧ X.cell? ⟨HB, 7, none⟩ = some (.slice eo' en' ec') ∧ X.cell? ⟨HB, 8, none⟩ = some (.slice fo' fn' fc')) ∧ X.cell? ⟨HB, 9, none⟩ = some (.slice ra rn rc)) (first | (with_reducible exact SX.out) | go_keep)
      (first | (go_at_call 30; with_reducible refine CK.out.mono ?_; rintro e w7 ⟨⟨l7, l7n, l7c, v7, v7n, v7c, q7, q7n, q7c, p7, p7n, p7c, e7, e7n, e7c, f7, f7n, f7c⟩, vs7, vq7, vd7, rfl, hwk, hb⟩; dsimp only at hwk ⊢; have B7 := hid (undrewK hb); have K7 := hid (And.intro (hwk.ker (h := ⟨l7, l7n, l7c, v7, v7n, v7c, q7, q7n, q7c, p7, p7n, p7c, e7, e7n, e7c, f7, f7n, f7c⟩)) (hwk.max (h := ⟨l7, l7n, l7c, v7, v7n, v7c, q7, q7n, q7c, p7, p7n, p7c, e7, e7n, e7c, f7, f7n, f7c⟩))); have WK7 := hid (wk_drew hwk); have SX := hid (ten_cells (block_below W6.out.o B7.out)).2; have R7 := hid (block_below RH6.out B7.out); obtain ⟨x0, x1, x2, x3, x4, x5⟩ := six_cells R7.out; obtain ⟨z0, z1, z2, z3, z4, z5⟩ := six_froz R7.out; have rl7 := lt_of_block R7.out; have WR := hid (ownsRow_below W6.out.r B7.out); clear hwk hb))
    all_goals
      go_wp2
      have bw6 : Below w1.heap.size w1 w6 := BW6.out
      have bw7 : Below w.heap.size w w7 := BB.out.trans ((bw6.trans (B7.out.mono bw6.size)).mono BB.out.size)
      have S6 := set6 (a := .slice l7 l7n l7c) (b := .slice v7 v7n v7c) (c := .slice q7 q7n q7c) (d := .slice p7 p7n p7c) (e := .slice e7 e7n e7c) (f := .slice f7 f7n f7c) R7.out bw7 (by omega)
      obtain ⟨n0, n1, n2, n3, n4, n5⟩ := six_cells S6.1
      have G7 := WK7.out.kp S6.2.1 (fun _ h => h)
      have GR := row_same (w' := put6 w7 (w.heap.size + 1 + 1) (.slice l7 l7n l7c) (.slice v7 v7n v7c) (.slice q7 q7n q7c) (.slice p7 p7n p7c) (.slice e7 e7n e7c) (.slice f7 f7n f7c)) WR.out (fun b _ e => put6_far (fun e2 => own_far2 WR.out (by decide) R7.out (by rw [e, e2])))
      refine bodyPost_ret (v := .tuple #[kerV ⟨l7, l7n, l7c, v7, v7n, v7c, q7, q7n, q7c, p7, p7n, p7c, e7, e7n, e7c, f7, f7n, f7c⟩, .slice ra rn rc]) (by simp [results, Tryz.results20, go_sem, n0, n1, n2, n3, n4, n5, kerV]) rfl ?_
      rw [ES.out]
      exact ⟨⟨l7, l7n, l7c, v7, v7n, v7c, q7, q7n, q7c, p7, p7n, p7c, e7, e7n, e7c, f7, f7n, f7c⟩, ra, rn, rc, rfl, G7.ker (h := ⟨l7, l7n, l7c, v7, v7n, v7c, q7, q7n, q7c, p7, p7n, p7c, e7, e7n, e7c, f7, f7n, f7c⟩), G7.max (h := ⟨l7, l7n, l7c, v7, v7n, v7c, q7, q7n, q7c, p7, p7n, p7c, e7, e7n, e7c, f7, f7n, f7c⟩), RcRow.recs GR, S6.2.2, _, _, vs7, vq7, vd7, ⟨Nat.le_trans BB.out.size bw6.size, BB.out.size⟩, G7, GR⟩
  · have C2 := hid (l1Between_any sig 0 (sg - 1))
    rw [show betB sig 0 (sg - 1) = false from (betB_not h2).symm] at C2
    have ES : Hid (publishK sg os ts kd sig arg = (kd, [(4, -1, sig)])) := hid (by unfold publishK; rw [if_pos HYY.out, if_neg h2])
    have CN := hid (note_any w1.heap.size HB (.int .i64 sg) (.slice eo en ec) (.slice xo xn xc) (.slice lo' ln' lc') (.slice vo' vn' vc') (.slice qo' qn' qc') (.slice po' pn' pc') (.slice eo' en' ec') (.slice fo' fn' fc') nilV kd vs vq vd [] 4 (-1) sig X3 s3.out (by simp) W3.out)
    obtain ⟨kS, hkS⟩ : ∃ x, x = kd := ⟨_, rfl⟩
    subst hkS
    have FT := HF
    clear h2
    go_upto_region 7 with (first
      | (go_at_call 31; with_reducible refine (C2.out _).mono ?_; rintro e w5 ⟨rfl, hw5⟩; obtain rfl := hw5.symm)
      | (go_at_call 32; with_reducible refine CN.out.mono ?_; rintro e w6 ⟨rfl, ra, rn, rc, hw, hb⟩; have W6 := hid hw; have BW6 := hid (B13.out.trans hb); clear hw hb))
    clear CN C2 HC HK HE s0 s1 s2
    have CK := hid (l4Copy_any ⟨lo', ln', lc', vo', vn', vc', qo', qn', qc', po', pn', pc', eo', en', ec', fo', fn', fc'⟩ kS w6.drew FT.out (W6.out.wk.ker (h := ⟨lo', ln', lc', vo', vn', vc', qo', qn', qc', po', pn', pc', eo', en', ec', fo', fn', fc'⟩) |>.below (Below.refl _ _).drew))
    unfold kerV at CK
    dsimp only at CK
    have RH6 := hid ((BW6.out.block _ rl).trans RH.out)
    have hB6 := hid BW6.out.size
    have ne1 : ¬ HB = w.heap.size + 1 + 1 := by have := W6.out.hH; omega
    have ne2 : ¬ w.heap.size + 1 + 1 = HB := by omega
    obtain ⟨_, ⟨t3, t4, t5, t6, t7, t8⟩, t9⟩ := ten_cells W6.out.o
    have hH6 := lt_of_block W6.out.o
    go_region_held3 (fun X => (X.cell? ⟨HB, 3, none⟩ = some (.slice lo' ln' lc') ∧ X.cell? ⟨HB, 4, none⟩ = some (.slice vo' vn' vc') ∧ X.cell? ⟨HB, 5, none⟩ = some (.slice qo' qn' qc') ∧ X.cell? ⟨HB, 6, none⟩ = some (.slice po' pn' pc') ∧ X.cell? ⟨HB, 7, none⟩ = some (.slice eo' en' ec') ∧ X.cell? ⟨HB, 8, none⟩ = some (.slice fo' fn' fc')) ∧ X.cell? ⟨HB, 9, none⟩ = some (.slice ra rn rc)) (first | (with_reducible exact SX.out) | go_keep)
      (first | (go_at_call 30; with_reducible refine CK.out.mono ?_; rintro e w7 ⟨⟨l7, l7n, l7c, v7, v7n, v7c, q7, q7n, q7c, p7, p7n, p7c, e7, e7n, e7c, f7, f7n, f7c⟩, vs7, vq7, vd7, rfl, hwk, hb⟩; dsimp only at hwk ⊢; have B7 := hid (undrewK hb); have K7 := hid (And.intro (hwk.ker (h := ⟨l7, l7n, l7c, v7, v7n, v7c, q7, q7n, q7c, p7, p7n, p7c, e7, e7n, e7c, f7, f7n, f7c⟩)) (hwk.max (h := ⟨l7, l7n, l7c, v7, v7n, v7c, q7, q7n, q7c, p7, p7n, p7c, e7, e7n, e7c, f7, f7n, f7c⟩))); have WK7 := hid (wk_drew hwk); have SX := hid (ten_cells (block_below W6.out.o B7.out)).2; have R7 := hid (block_below RH6.out B7.out); obtain ⟨x0, x1, x2, x3, x4, x5⟩ := six_cells R7.out; obtain ⟨z0, z1, z2, z3, z4, z5⟩ := six_froz R7.out; have rl7 := lt_of_block R7.out; have WR := hid (ownsRow_below W6.out.r B7.out); clear hwk hb))
    all_goals
      go_wp2
      have bw6 : Below w1.heap.size w1 w6 := BW6.out
      have bw7 : Below w.heap.size w w7 := BB.out.trans ((bw6.trans (B7.out.mono bw6.size)).mono BB.out.size)
      have S6 := set6 (a := .slice l7 l7n l7c) (b := .slice v7 v7n v7c) (c := .slice q7 q7n q7c) (d := .slice p7 p7n p7c) (e := .slice e7 e7n e7c) (f := .slice f7 f7n f7c) R7.out bw7 (by omega)
      obtain ⟨n0, n1, n2, n3, n4, n5⟩ := six_cells S6.1
      have G7 := WK7.out.kp S6.2.1 (fun _ h => h)
      have GR := row_same (w' := put6 w7 (w.heap.size + 1 + 1) (.slice l7 l7n l7c) (.slice v7 v7n v7c) (.slice q7 q7n q7c) (.slice p7 p7n p7c) (.slice e7 e7n e7c) (.slice f7 f7n f7c)) WR.out (fun b _ e => put6_far (fun e2 => own_far2 WR.out (by decide) R7.out (by rw [e, e2])))
      refine bodyPost_ret (v := .tuple #[kerV ⟨l7, l7n, l7c, v7, v7n, v7c, q7, q7n, q7c, p7, p7n, p7c, e7, e7n, e7c, f7, f7n, f7c⟩, .slice ra rn rc]) (by simp [results, Tryz.results20, go_sem, n0, n1, n2, n3, n4, n5, kerV]) rfl ?_
      rw [ES.out]
      exact ⟨⟨l7, l7n, l7c, v7, v7n, v7c, q7, q7n, q7c, p7, p7n, p7c, e7, e7n, e7c, f7, f7n, f7c⟩, ra, rn, rc, rfl, G7.ker (h := ⟨l7, l7n, l7c, v7, v7n, v7c, q7, q7n, q7c, p7, p7n, p7c, e7, e7n, e7c, f7, f7n, f7c⟩), G7.max (h := ⟨l7, l7n, l7c, v7, v7n, v7c, q7, q7n, q7c, p7, p7n, p7c, e7, e7n, e7c, f7, f7n, f7c⟩), RcRow.recs GR, S6.2.2, _, _, vs7, vq7, vd7, ⟨Nat.le_trans BB.out.size bw6.size, BB.out.size⟩, G7, GR⟩
end Go.Proofs.YthaklmdhkkfigaaGreat

import Derived.Test.YtiimkhepplkocaaGreatZ9
import Derived.Test.YtiimkhepplkocaaGreatV6
namespace Go.Proofs.YtiimkhepplkocaaGreat
open Go.RowKit Go.Sort
set_option linter.unusedVariables false
attribute [local go_sem ↓] Go.wp_at_zero Go.wp_at_succ

theorem Lists.below {X Y : World} {l : LimD} {P : Nat} {lv : Value} {LS : List Value} {xs : List (List StmD)} (h : Lists X l P lv LS xs) (hb : Below X.heap.size X Y) : Lists Y l P lv LS xs := h.stir (B := 0) (Stir.of_below hb)
theorem entsRow : ∀ (args : Array Value) (w : World), (callFunc 163 args).run Tryz.prog w = .ok (.enter 163 args) w := enter_of (f := 163) Tryz.func163 (by kernel_rfl) rfl
theorem flat_le {K : List Nat} {g : Nat → List StmD} (h : ∀ x, x ∈ K → (g x).length ≤ 50) : ((K.map g).flatten).length ≤ K.length * 50 := by
  induction K with
  | nil => simp
  | cons x r ih =>
    have h1 := h x (by simp)
    have h2 := ih (fun y hy => h y (by simp [hy]))
    rw [List.map_cons, List.flatten_cons, List.length_append, List.length_cons, Nat.succ_mul]
    omega
theorem lift_len {l : LimD} {xs : List StmD} {vs : List Value} (h : liftAll l xs = some vs) : xs.length ≤ 50 := by
  unfold liftAll at h
  split at h
  · rename_i hh; exact hh.2
  · cases h
/-- The statements of the first step. -/
def bootS (ss : List StD) : List StmD := ((bootOf ss).map (fun i => (ss.getD i st0).entry)).flatten
theorem bootOf_lt {ss : List StD} {tn : Nat} (G : GoodT ss tn) : ∀ x, x ∈ bootOf ss → x < ss.length := by
  intro x hx
  unfold bootOf at hx
  rcases List.mem_cons.1 hx with h | h
  · subst h; exact G.n1
  · exact down_lt G _ 0 G.n1 rfl x h
theorem bootOf_len {ss : List StD} {tn : Nat} (G : GoodT ss tn) : (bootOf ss).length ≤ 201 := by
  have := down_len G (ss.length - 0) 0 G.n1 rfl
  have := G.n2
  unfold bootOf
  simp
  omega

set_option maxRecDepth 100000 in
set_option maxHeartbeats 8000000 in
theorem firstStep_any {w0 : World} {cx lx : Array Value} {N : Nat → Nat} {tg tcap : Nat} {ss : List StD} {ts : List TrD} {n : Nat} {l : LimD} {B P0 M tn : Nat} {E F : List Value} {ev xv : Value} {L lets act : Nat → Value} (hC : Chk ss ts l) (hn : ss.length = n) (kb ko vb vo kn kc vn vc : Nat) (ks vs : List Int) (w : World) (h : L2 w0 cx lx N tg tcap ss ts n l B P0 M tn E F ev xv L lets act w)
    (hkn : kn ≤ 1048576) (hvn : vn ≤ 1048576) (hk : SliceOf w (some ⟨kb, ko, none⟩) kn ks) (hv : SliceOf w (some ⟨vb, vo, none⟩) vn vs) (hbp : ks.length = vs.length ∧ vs.length ≤ 32 ∧ ∀ i, i < ks.length → 1 ≤ ks.getD i 0 ∧ ks.getD i 0 ≤ 7) (hlv : l.v = vs.length) :
    Calls Tryz.prog 70 #[.pointer (some ⟨M, 0, none⟩), .agg #[.slice (some ⟨kb, ko, none⟩) kn kc, .slice (some ⟨vb, vo, none⟩) vn vc]] w fun e w' => ∃ kv vv ev, e = .returned (.tuple #[.int .i64 (bootTo ss), .agg #[kv, vv], ev]) ∧ OutE w.heap.size w' kv vv ev ks (execS l.v ks 0 vs (bootS ss)).1 (execS l.v ks 0 vs (bootS ss)).2 ∧ Below w.heap.size w w' := by
  subst hn
  have G := hC.good
  obtain ⟨W, hW⟩ : ∃ W, W = (w.alloc (.cells #[.slice (some ⟨kb, ko, none⟩) kn kc, .slice (some ⟨vb, vo, none⟩) vn vc] 32)).alloc (.cells #[.slice none 0 0, .slice none 0 0] 32) := ⟨_, rfl⟩
  have bW : Below w.heap.size w W := by rw [hW]; exact below2 _ _ _
  have q2 : W.heap[w.heap.size + 1]? = some (.cells #[.slice none 0 0, .slice none 0 0] 32 (0, 0)) := by
    rw [hW]; simpa using heap_alloc_new (w.alloc (.cells #[.slice (some ⟨kb, ko, none⟩) kn kc, .slice (some ⟨vb, vo, none⟩) vn vc] 32)) (.cells #[.slice none 0 0, .slice none 0 0] 32)
  have CM := hid (momentOf_any kb ko vb vo kn kc vn vc ks vs 0 W hkn hvn (hk.below bW) (hv.below bW))
  have HI : Hid (∀ w', Below w.heap.size w w' → L2 w0 cx lx N tg tcap ss ts ss.length l B P0 M tn E F ev xv L lets act w') := hid (fun w' hb => h.below hb)
  have BH := hid (fun w' (hb : Below w.heap.size w w') => bootHeader_any N ss _ G M tg ss.length tcap w' (HI.out w' hb).l1.mb.nd (five_cells (HI.out w' hb).l1.mac.box).1 G.n1 (tree_cell (HI.out w' hb).l1.mb.tr G.n1))
  have CR := hid (fun ge gn cn w' (hb : Below w.heap.size w w') o1 o2 => compileRow_any (-1) (bootTo ss : Int) ge 0 gn cn [] (bootOf ss) none 0 0 [] w' (HI.out w' hb) (by simp) (by have := bootOf_len G; omega) (fun x hx => by simp at hx) (bootOf_lt G) o1 o2 ⟨[], rfl, World.ownsRow_nil _ _ _ _⟩)
  have Q2 := hid q2
  have BW := hid bW
  have HW := hid hW
  have HP := hid hbp
  have HLV := hid hlv
  have hent := entsRow
  have LB := hid (bootOf_len G)
  have FL : Hid ((bootS ss).length ≤ 20000) := hid (by
    have h1 := flat_le (K := bootOf ss) (g := fun i => (ss.getD i st0).entry) (fun x hx => by obtain ⟨vs, hv⟩ := hC.ent x (bootOf_lt G x hx); exact lift_len hv)
    have h2 := bootOf_len G
    unfold bootS
    omega)
  have XS : Hid (([].map (fun i => (ss.getD i st0).exit) ++ [[]] ++ (bootOf ss).map (fun i => (ss.getD i st0).entry)).flatten = bootS ss) := hid (by simp [bootS])
  rw [hW] at CM
  clear h hk hv q2 bW hW hbp hlv
  go_enter Tryz.func70, Tryz.ntmps70
  go_wp2_with (first
    | (go_at_call 67; refine CM.out.mono ?_; rintro e w1 ⟨mb, rfl, hm, hb⟩; rw [← HW.out] at hm hb; have M1 := hid hm; have B1 := hid (BW.out.trans (hb.mono BW.out.size)); have Z1 := hid (block_below Q2.out hb); have S1 := hid hb.size; clear hm hb)
    | (go_at_call 44; refine (BH.out _ B1.out).mono ?_; rintro e w2 ⟨ge, gn, cn, rfl, o1, o2, _, hb⟩; have B2 := hid (B1.out.trans (hb.mono B1.out.size)); have M2 := hid (M1.out.below hb); have Z2 := hid (block_below Z1.out hb); have S2 := hid (Nat.le_trans S1.out hb.size); have O1 := hid o1; have O2 := hid o2; clear hb o1 o2)
    | (go_at_call 125; refine (CR.out ge gn cn _ B2.out (ownsRow_base O1.out (Nat.zero_le _)) (ownsRow_base O2.out (Nat.zero_le _))).mono ?_; rintro e w3 ⟨P, lv, rfl, hL, hb⟩; have B3 := hid (B2.out.trans (hb.mono B2.out.size)); have M3 := hid (M2.out.below hb); have Z3 := hid (block_below Z2.out hb); have S3 := hid (Nat.le_trans S2.out hb.size); have L3 := hid hL; clear hb hL)
    | (go_at_call 163; refine (runAll_any l P lv _ _ mb W.heap.size ks vs 0 [] _ (L3.out.below (below1 _ _)) HLV.out HP.out.1 HP.out.2.2 (by have := LB.out; simp; omega) (by have := FL.out; rw [XS.out]; simp; omega) (by have := S3.out; simp; omega) (M3.out.below (below1 _ _))).mono ?_; rw [XS.out]; rintro e w5 ⟨rfl, hm, hst⟩; have S5 := hid hst; obtain ⟨kg, kc', vg, vc', ee, m1, ok, ov, hne, hmb, hev, hev0⟩ := hm; obtain ⟨ea, en, ec, rfl⟩ : ∃ ea en ec, ee = .slice ea en ec := (by rcases hev.2 with ⟨h, _⟩ | ⟨g, cap, cur, h, _⟩ <;> exact ⟨_, _, _, h⟩); have M5 := hid m1; have OK5 := hid ok; have OV5 := hid ov; have OE5 := hid hev; obtain ⟨t0, t1, t2, t3⟩ := quad_cells m1; clear hst m1 ok ov hev hev0))
  have B4 : Hid (Below w.heap.size w (w3.alloc (.cells #[.int .i64 (-1), .slice (some ⟨ge, 0, none⟩) 0 0, .slice (some ⟨gn, 0, none⟩) (bootOf ss).length cn, .int .i64 (bootTo ss : Nat), .func (.func 163) #[] #[.pointer (some ⟨P, 0, none⟩)]] 194))) := hid (B3.out.trans ((below1 _ _).mono B3.out.size))
  have Z5 := hid (S5.out.box (block_below Z3.out (below1 _ _)) (by decide) (by decide) (by decide))
  have R5 := hid (S5.out.box (heap_alloc_new w3 _) (by decide) (by decide) (by decide))
  have B5 : Hid (Below w.heap.size w w5) := hid (B4.out.trans ((S5.out.below (by have := S3.out; simp; omega)).mono BW.out.size))
  obtain ⟨x0, x1, x2, x3, x4⟩ := five_cells R5.out
  have nmb : ¬ (mb = w.heap.size + 1) := by have := hmb; have := lt_of_block Q2.out; omega
  have nmb2 : ¬ (w.heap.size + 1 = mb) := fun e => nmb e.symm
  have nrb : ¬ (w3.heap.size = w.heap.size + 1) := by have := lt_of_block Z3.out; omega
  have nrb2 : ¬ (w.heap.size + 1 = w3.heap.size) := fun e => nrb e.symm
  have CBk := hid (bank_any mb _ _ _ _ w5.drew ⟨_, _, _, rfl⟩ ⟨_, _, _, rfl⟩ M5.out)
  clear t0 t1 t2 x0 x1 x2 x4
  go_region_held3 (fun w' => w'.cell? ⟨w3.heap.size, 3, none⟩ = some (.int .i64 (bootTo ss : Nat)) ∧ w'.cell? ⟨mb, 3, none⟩ = some (.slice ea en ec)) (first | (with_reducible exact SX.out) | go_keep | (exact And.intro ((cell_far (fun e => nrb e)).trans ((cell_far (fun e => nrb e)).trans SX.out.1)) ((cell_far (fun e => nmb e)).trans ((cell_far (fun e => nmb e)).trans SX.out.2))))
    (first
      | (go_at_call 69; refine CBk.out.mono ?_; rintro e w6 ⟨rfl, hb⟩; have B6 : Hid (Below w5.heap.size w5 w6) := hid (dn0 hb); have SX := hid (And.intro ((dn0 hb).cell (p := ⟨w3.heap.size, 3, none⟩) (lt_of_block R5.out) |>.trans x3) ((dn0 hb).cell (p := ⟨mb, 3, none⟩) (lt_of_block M5.out) |>.trans t3)); have Z6 := hid (block_below Z5.out (dn0 hb)); obtain ⟨p0, p1, p2, p3⟩ := pair_cells Z6.out; clear hb))
  all_goals
    go_wp2_with fail
    obtain ⟨y0, y1⟩ := two_cells' (out_cells (u1 := .slice (some ⟨kg, 0, none⟩) ks.length kc') (u2 := .slice (some ⟨vg, 0, none⟩) (execS l.v ks 0 vs (bootS ss)).1.length vc') Z6.out)
    refine bodyPost_ret (v := .tuple #[.int .i64 (bootTo ss : Nat), .agg #[.slice (some ⟨kg, 0, none⟩) ks.length kc', .slice (some ⟨vg, 0, none⟩) (execS l.v ks 0 vs (bootS ss)).1.length vc'], .slice ea en ec]) (by simp [results, Tryz.results70, go_sem, y0, y1]) rfl ?_
    refine ⟨_, _, _, rfl, ?_, out_bel (B5.out.trans (B6.out.mono B5.out.size)) (by omega)⟩
    have h5 : OutE w.heap.size w6 (.slice (some ⟨kg, 0, none⟩) ks.length kc') (.slice (some ⟨vg, 0, none⟩) (execS l.v ks 0 vs (bootS ss)).1.length vc') (.slice ea en ec) ks (execS l.v ks 0 vs (bootS ss)).1 (execS l.v ks 0 vs (bootS ss)).2 :=
      (OutE.mk (ownsRow_base OK5.out.1 BW.out.size) (ownsRow_base OV5.out.1 BW.out.size) (by simpa using ownsRow_base OE5.out BW.out.size) (fun b e => by simp [Value.ownBlock] at e ⊢; omega) : OutE w.heap.size w5 _ _ _ _ _ _).below B6.out
    exact h5.set2 Z6.out (by decide) (by decide) 0 1 _ _
end Go.Proofs.YtiimkhepplkocaaGreat

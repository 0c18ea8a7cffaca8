import Derived.Test.YtiimkhepplkocaaGreatDr22
import Derived.Test.YtiimkhepplkocaaGreatFa
import Derived.Test.YtiimkhepplkocaaGreatZg
import Derived.Test.YtiimkhepplkocaaGreatZ18
import Derived.Test.YtiimkhepplkocaaGreatZ26
namespace Go.Proofs.YtiimkhepplkocaaGreat
open Go.RowKit Go.Sort
set_option linter.unusedVariables false
attribute [local go_sem ↓] Go.wp_at_zero Go.wp_at_succ
theorem okBt_of {ss : List StD} {ts : List TrD} {l : LimD} {ks vs : List Int} (hc : (checkOf ss ts l).1 = 0) (hb : bankB ks vs = true) (hv : (vs.length : Int) = l.v) : okBt ss ts l ks vs = true := by
 unfold okBt fitB
 rw [decide_eq_true hc, hb, decide_eq_true hv]; rfl
theorem chain_boot {ss : List StD} {ts : List TrD} {l : LimD} {ks vs : List Int} (hc : (checkOf ss ts l).1 = 0) (hb : bankB ks vs = true) (hv : (vs.length : Int) = l.v) (hi : ∀ i, I64 (vs.getD i 0)) : ∃ (lf : Nat) (vs' : List Int) (es : List EffD), btL ss ts l ks vs = lf ∧ btK ss ts l ks vs = ks ∧ btV ss ts l ks vs = vs' ∧ btE ss ts l ks vs = es ∧ lf < ss.length ∧ leafB ss (lf : Int) = true ∧ bankB ks vs' = true ∧ (∀ i, I64 (vs'.getD i 0)) ∧ vs'.length = vs.length ∧ es.length ≤ 1048576 := by
 have ok := okBt_of hc hb hv
 have hl := (bankP_of hb)
 have eE : (btE ss ts l ks vs).length ≤ 1048576 := (boot_len (by omega) (by omega)).2.2
 have hbV : bankB ks (btV ss ts l ks vs) = true := by unfold btV; rw [if_pos ok]; exact execS_bank _ hb
 refine ⟨bootTo ss, btV ss ts l ks vs, btE ss ts l ks vs, by unfold btL; rw [if_pos ok], by unfold btK; rw [if_pos ok], rfl, rfl, (boot_leaf (chk_of hc)).2, (boot_leaf (chk_of hc)).1, hbV, ?_, ?_, eE⟩
 ·unfold btV; rw [if_pos ok]; exact execS_I64 (by unfold I64; omega) _ hi
 ·have := (bankP_of hbV).1; omega
theorem okDp_of {ss : List StD} {ts : List TrD} {l : LimD} {ks vs : List Int} {lf : Nat} {sg : Int} (hc : (checkOf ss ts l).1 = 0) (hb : bankB ks vs = true) (hv : (vs.length : Int) = l.v) (hf : leafB ss (lf : Int) = true) (hs : 0 ≤ sg ∧ sg < l.s) : okDp ss ts l ks vs lf sg = true := by
 unfold okDp
 rw [okBt_of hc hb hv, hf, decide_eq_true hs]; rfl
theorem chain_step {ss : List StD} {ts : List TrD} {l : LimD} {ks vs : List Int} {lf : Nat} {sg arg : Int} (hc : (checkOf ss ts l).1 = 0) (hb : bankB ks vs = true) (hv : (vs.length : Int) = l.v) (hi : ∀ i, I64 (vs.getD i 0)) (hl : lf < ss.length) (hf : leafB ss (lf : Int) = true) (hs : 0 ≤ sg ∧ sg < l.s) (ha : I64 arg) : ∃ (nl : Nat) (vs' : List Int) (es : List EffD) (hd : Bool), dL ss ts l ks vs lf sg arg = nl ∧ dK ss ts l ks vs lf sg = ks ∧ dV ss ts l ks vs lf sg arg = vs' ∧ dE ss ts l ks vs lf sg arg = es ∧ dB ss ts l ks vs lf sg arg = hd ∧ nl < ss.length ∧ leafB ss (nl : Int) = true ∧ bankB ks vs' = true ∧ (∀ i, I64 (vs'.getD i 0)) ∧ vs'.length = vs.length ∧ es.length ≤ 1048576 ∧ (hd = false → nl = lf ∧ vs' = vs ∧ es = []) := by
 have ok := okDp_of hc hb hv hf hs
 have hk := (bankP_of hb)
 have e0 : ((lf : Int)).toNat = lf := by omega
 have eE : (dE ss ts l ks vs lf sg arg).length ≤ 1048576 := (disp_len (by omega) (by omega)).2.2
 have vV : dV ss ts l ks vs lf sg arg = (dpX ss ts l ks vs arg lf (pickX ss ts l vs arg lf sg)).1 := by unfold dV; rw [if_pos ok, e0]
 have vE : dE ss ts l ks vs lf sg arg = (dpX ss ts l ks vs arg lf (pickX ss ts l vs arg lf sg)).2 := by unfold dE; rw [if_pos ok, e0]
 have vB : dB ss ts l ks vs lf sg arg = (pickX ss ts l vs arg lf sg).isSome := by unfold dB; rw [if_pos ok, e0]
 obtain ⟨k1, k2⟩ := step_leaf (chk_of hc) (vs := vs) (arg := arg) (sg := sg) hl hf
 have hbV : bankB ks (dV ss ts l ks vs lf sg arg) = true := by rw [vV]; exact step_bank hb
 refine ⟨dpN ss ts lf (pickX ss ts l vs arg lf sg), _, _, _, by unfold dL; rw [if_pos ok, e0], by unfold dK; rw [if_pos ok], rfl, rfl, rfl, k2, k1, hbV, ?_, ?_, eE, fun h => ?_⟩
 ·rw [vV]; exact step_I64 ha hi
 ·have := (bankP_of hbV).1; omega
 ·rw [vB] at h
  rw [vV, vE]
  cases hp : pickX ss ts l vs arg lf sg with
  | none => exact ⟨rfl, rfl, rfl⟩
  | some q => rw [hp] at h; cases h
structure ChS (W : World) (HB HB2 : Nat) (kv vv kv2 vv2 : Value) (ks vs : List Int) (X : World) : Prop where
 bel : Below W.heap.size W X
 b1 : X.heap[HB]? = some (.cells #[kv, vv] 32 (0, 0))
 b2 : X.heap[HB2]? = some (.cells #[kv2, vv2] 32 (0, 0))
 h1 : W.heap.size ≤ HB
 h2 : W.heap.size ≤ HB2
 ne : HB ≠ HB2
 k1 : X.ownsRow W.heap.size 3 1 kv ks.length (vint ks)
 v1 : X.ownsRow W.heap.size 3 1 vv vs.length (vint vs)
 k2 : X.ownsRow W.heap.size 3 1 kv2 ks.length (vint ks)
 v2 : X.ownsRow W.heap.size 3 1 vv2 vs.length (vint vs)
theorem ChS.below {W : World} {HB HB2 : Nat} {kv vv kv2 vv2 : Value} {ks vs : List Int} {X Y : World} (h : ChS W HB HB2 kv vv kv2 vv2 ks vs X) (hb : Below X.heap.size X Y) : ChS W HB HB2 kv vv kv2 vv2 ks vs Y := ⟨h.bel.trans (hb.mono h.bel.size), block_below h.b1 hb, block_below h.b2 hb, h.h1, h.h2, h.ne, ownsRow_below h.k1 hb, ownsRow_below h.v1 hb, ownsRow_below h.k2 hb, ownsRow_below h.v2 hb⟩
structure Bk (W : World) (X : World) (kv vv : Value) (ks vs : List Int) : Prop where
 k : X.ownsRow W.heap.size 3 1 kv ks.length (vint ks)
 v : X.ownsRow W.heap.size 3 1 vv vs.length (vint vs)
theorem Bk.below {W X Y : World} {kv vv : Value} {ks vs : List Int} (h : Bk W X kv vv ks vs) (hb : Below X.heap.size X Y) : Bk W Y kv vv ks vs := ⟨ownsRow_below h.k hb, ownsRow_below h.v hb⟩
theorem Bk.set {W X : World} {kv vv u : Value} {ks vs : List Int} {H o : Nat} {cs : Array Value} (h : Bk W X kv vv ks vs) (hb : X.heap[H]? = some (.cells cs 32 (0, 0))) : Bk W (X.setCell ⟨H, o, none⟩ u) kv vv ks vs := ⟨set_own hb h.k (by decide), set_own hb h.v (by decide)⟩
theorem other_box {X : World} {H K o : Nat} {u : Value} {cs : Array Value} {t : TypeId} (hne : K ≠ H) (h : X.heap[K]? = some (.cells cs t (0, 0))) : (X.setCell ⟨H, o, none⟩ u).heap[K]? = some (.cells cs t (0, 0)) := (Below.heap_setCell _ _ _ _ hne).trans h
theorem ChS.next {W : World} {HB HB2 : Nat} {kv vv kv2 vv2 a b c d : Value} {ks vs vs' : List Int} {X : World} (h : ChS W HB HB2 kv vv kv2 vv2 ks vs X) (o1 : Bk W X a b ks vs') (o2 : Bk W X c d ks vs') : ChS W HB HB2 a b c d ks vs' ((((X.setCell ⟨HB, 0, none⟩ a).setCell ⟨HB, 1, none⟩ b).setCell ⟨HB2, 0, none⟩ c).setCell ⟨HB2, 1, none⟩ d) := by
 have m1 := heap_setCell_same X HB 0 _ _ a h.b1
 have m2 := heap_setCell_same _ HB 1 _ _ b m1
 have n1 : ((X.setCell ⟨HB, 0, none⟩ a).setCell ⟨HB, 1, none⟩ b).heap[HB2]? = some (.cells #[kv2, vv2] 32 (0, 0)) := other_box h.ne.symm (other_box h.ne.symm h.b2)
 have n2 := heap_setCell_same _ HB2 0 _ _ c n1
 have n3 := heap_setCell_same _ HB2 1 _ _ d n2
 have q1 := (((o1.set h.b1).set m1).set n1).set n2 (u := d) (o := 1)
 have q2 := (((o2.set h.b1).set m1).set n1).set n2 (u := d) (o := 1)
 refine ⟨(((h.bel.setCell h.h1 _).setCell h.h1 _).setCell h.h2 _).setCell h.h2 _, other_box h.ne (other_box h.ne (by rw [m2]; rfl)), by rw [n3]; rfl, h.h1, h.h2, h.ne, q1.k, q1.v, q2.k, q2.v⟩
theorem slice_at {X : World} {B c : Nat} {ao : Option Addr} {zs : List Int} (h : X.ownsRow B 3 1 (.slice ao zs.length c) zs.length (vint zs)) : SliceOf X ao zs.length zs := by
 obtain ⟨ao', c', e, _, _, h2⟩ := slice_own h
 simp only [Value.slice.injEq] at e
 rw [e.1]; exact h2
theorem hBank_bk {W W' X : World} {ka va ka2 va2 : Option Addr} {kc vc kc2 vc2 : Nat} {ks vs : List Int} (h1 : Bk W X (.slice ka ks.length kc) (.slice va vs.length vc) ks vs) (h2 : Bk W' X (.slice ka2 ks.length kc2) (.slice va2 vs.length vc2) ks vs) (hk : ks.length ≤ 32) (hv : vs.length ≤ 32) :
  Calls Tryz.prog 16 #[.agg #[.slice ka ks.length kc, .slice va vs.length vc], .agg #[.slice ka2 ks.length kc2, .slice va2 vs.length vc2]] X fun e w' => e = .returned (.bool true) ∧ Below X.heap.size X w' :=
 hBank_same ka va ka2 va2 ks.length vs.length kc vc kc2 vc2 ks vs X (by omega) (by omega) (slice_at h1.k) (slice_at h1.v) (slice_at h2.k) (slice_at h2.v)
theorem OutE.bk {W X w' : World} {kv vv ev : Value} {ks vs : List Int} {es : List EffD} (h : OutE X.heap.size w' kv vv ev ks vs es) (hb : W.heap.size ≤ X.heap.size) : Bk W w' kv vv ks vs := ⟨ownsRow_base h.k hb, ownsRow_base h.v hb⟩
theorem ChS.a {W : World} {HB HB2 : Nat} {kv vv kv2 vv2 : Value} {ks vs : List Int} {X : World} (h : ChS W HB HB2 kv vv kv2 vv2 ks vs X) : Bk W X kv vv ks vs := ⟨h.k1, h.v1⟩
theorem ChS.b {W : World} {HB HB2 : Nat} {kv vv kv2 vv2 : Value} {ks vs : List Int} {X : World} (h : ChS W HB HB2 kv vv kv2 vv2 ks vs X) : Bk W X kv2 vv2 ks vs := ⟨h.k2, h.v2⟩
theorem chs_start {W X w5 : World} {kv vv kv2 vv2 : Value} {ks vs : List Int} (hb : Below W.heap.size W X) (h1 : Bk W X kv vv ks vs) (hb2 : Below (X.alloc (.cells #[kv, vv] 32)).heap.size (X.alloc (.cells #[kv, vv] 32)) w5) (h2 : Bk W w5 kv2 vv2 ks vs) : ChS W X.heap.size w5.heap.size kv vv kv2 vv2 ks vs (w5.alloc (.cells #[kv2, vv2] 32)) := by
 have hb5 : Below W.heap.size W w5 := (hb.alloc hb.size _).trans (hb2.mono (hb.alloc hb.size _).size)
 have b5 : w5.heap[X.heap.size]? = some (.cells #[kv, vv] 32 (0, 0)) := block_below (heap_alloc_new X _) hb2
 have h1' := (h1.below (below1 X (.cells #[kv, vv] 32))).below hb2
 exact ⟨hb5.alloc hb5.size _, block_below b5 (below1 _ _), heap_alloc_new _ _, hb.size, hb5.size, fun h => by have := lt_of_block b5; omega, (h1'.below (below1 _ _)).k, (h1'.below (below1 _ _)).v, (h2.below (below1 _ _)).k, (h2.below (below1 _ _)).v⟩
structure Aft (U : World) (X : World) (H : Nat) (kv vv ev : Value) (ks vs : List Int) (es : List EffD) : Prop where
 b : X.heap[H]? = some (.cells #[kv, vv] 32 (0, 0))
 k : Bk U X kv vv ks vs
 e : X.ownsRow U.heap.size 136 4 ev es.length (effCells es)
theorem Aft.below {U X Y : World} {H : Nat} {kv vv ev : Value} {ks vs : List Int} {es : List EffD} (h : Aft U X H kv vv ev ks vs es) (hb : Below X.heap.size X Y) : Aft U Y H kv vv ev ks vs es := ⟨block_below h.b hb, h.k.below hb, ownsRow_below h.e hb⟩
theorem aft_start {U Y w8 : World} {kv vv ev : Value} {ks vs : List Int} {es : List EffD} (hb : Below U.heap.size U Y) (hO : OutE Y.heap.size w8 kv vv ev ks vs es) : Aft U (w8.alloc (.cells #[kv, vv] 32)) w8.heap.size kv vv ev ks vs es :=
 ⟨heap_alloc_new _ _, (hO.bk hb.size).below (below1 _ _), ownsRow_below (ownsRow_base hO.e hb.size) (below1 _ _)⟩
theorem itc_get : ∀ (its : List ItD) (k : Nat), k < its.length → ∃ x : ItD, x ∈ its ∧ (itCells its)[k * 4]? = some (.int .i64 x.kind) ∧ (itCells its)[k * 4 + 1]? = some (.int .i64 x.obj) ∧ (itCells its)[k * 4 + 2]? = some (.int .i64 x.sig) ∧ (itCells its)[k * 4 + 3]? = some (.int .i64 x.val)
 | [], k, h => absurd h (by simp)
 | e :: r, 0, _ => ⟨e, List.mem_cons_self .., rfl, rfl, rfl, rfl⟩
 | e :: r, k + 1, h => by
  obtain ⟨x, h0, h1, h2, h3, h4⟩ := itc_get r k (by simpa using h)
  have he : itCells (e :: r) = itC e ++ itCells r := rfl
  refine ⟨x, List.mem_cons_of_mem _ h0, ?_, ?_, ?_, ?_⟩
  ·rw [show (k + 1) * 4 = k * 4 + 4 by omega, he]; simpa using h1
  ·rw [show (k + 1) * 4 + 1 = k * 4 + 1 + 4 by omega, he]; simpa using h2
  ·rw [show (k + 1) * 4 + 2 = k * 4 + 2 + 4 by omega, he]; simpa using h3
  ·rw [show (k + 1) * 4 + 3 = k * 4 + 3 + 4 by omega, he]; simpa using h4
set_option maxRecDepth 100000 in
set_option maxHeartbeats 16000000 in
theorem lawChain (co mo : Option Addr) (n cap mn mcap : Nat) (w : World) (hc : BytesAt w co n) (hm : BytesAt w mo mn) :
  Calls Tryz.prog 4 #[.slice co n cap, .slice mo mn mcap] w fun e w' => e = .returned (.bool true) ∧ Below w.heap.size w w' := by
 by_cases h1 : n ≤ 1048576
 case neg =>
  have hn : ¬ (n : Int) ≤ 1048576 := by omega
  have hb : decide ((n : Int) > 1048576) = true := by simp; omega
  clear hc hm h1
  go_enter Tryz.func4, Tryz.ntmps4
  go_wp2_with fail
  go_ret
  exact ⟨rfl, Below.refl _ _⟩
 by_cases h2 : mn ≤ 1048576
 case neg =>
  have hn : (n : Int) ≤ 1048576 := by omega
  have hn2 : ¬ (mn : Int) ≤ 1048576 := by omega
  have hb : decide ((n : Int) > 1048576) = false := by simp; omega
  have hb2 : decide ((mn : Int) > 1048576) = true := by simp; omega
  clear hc hm h1
  go_enter Tryz.func4, Tryz.ntmps4
  go_wp2_with fail
  go_ret
  exact ⟨rfl, Below.refl _ _⟩
 have n1 : ¬ (n : Int) > 1048576 := by omega
 have n2 : ¬ (mn : Int) > 1048576 := by omega
 have DS := hid (drawScripted_any co n cap h1 w hc)
 have MB := hid hm
 clear hc hm
 go_enter Tryz.func4, Tryz.ntmps4
 go_upto_region 4 with (go_at_call 8; have q := DS.out; with_reducible refine q.mono ?_; clear q; intro e w1 hq; unfold ScrEd at hq; obtain ⟨y, ov, tv, iv, its, rfl, hv, hok, ho, hl, hit, hb⟩ := hq; obtain ⟨R, hR, hO⟩ := hv.o; obtain ⟨oa, oc, e1, om, hob⟩ := obs_read hR hO; subst e1; obtain ⟨ta, tc, e2⟩ := own_any hv.t; subst e2; obtain ⟨ia, ic, e3⟩ := own_any ho; subst e3; have B1 := hid hb; have OBS := hid hob; have OK := hid hok; have IT := hid ho; have IL := hid hl; have IOK := hid hit; clear hv hok ho hl hit hb hR hO hob)
 obtain ⟨b, off, rfl, hbl, hat⟩ := OBS.out.2 (by have := OK.out.n; omega)
 obtain ⟨r, hr, HP⟩ := hPick_det mo mn mcap 0 y.ds.length (by omega) (by have := OK.out.n; omega) w h2 MB.out
 have hrn : r < y.ds.length := by have := OK.out.n; omega
 have d3 : y.ds.length ≤ 3 := OK.out.n.2
 obtain ⟨hs, hcl, hmx, hof⟩ := hat r hrn
 obtain ⟨h0, hcl0, _, _⟩ := hat 0 (by omega)
 have OKR := hid (OK.out.ob r hrn)
 obtain ⟨dr, hdr⟩ : ∃ d, d = y.ds.getD r ob0 := ⟨_, rfl⟩
 rw [← hdr] at hcl hof OKR
 obtain ⟨ko, kn, kc, vo, vn, vc, uo, un, uc, so, sn, sc, tt, tn, tc2⟩ := hs
 obtain ⟨p, qc, dc, ks, vs, us, ss, ts⟩ := dr
 have ek : ks.length = kn := hof.hk.1
 subst ek
 have ev : vs.length = vn := hof.hv.1
 subst ev
 have es : ss.length = sn := hof.hs.1
 subst es
 have et : ts.length = tn := hof.ht.1
 subst et
 have HMX := hid hmx
 have HOF := hid hof
 have V0 : Hid (w1.cell? ⟨b, off + 4, none⟩ = some (.slice h0.vo h0.vn h0.vc)) := hid (by have := hcl0.c4; simpa using this)
 obtain ⟨g0, g1, g2, g3, g4, g5, g6, g7⟩ := hcl
 obtain ⟨W, hW⟩ : ∃ W, W = w1.alloc (.cells #[.int .i64 (y.sg : Int), .slice (some ⟨b, off, none⟩) y.ds.length oc, .slice ta y.tms.length tc] 26) := ⟨_, rfl⟩
 have bW : Below w1.heap.size w1 W := by rw [hW]; exact below1 _ _
 have SW : W.heap[w1.heap.size]? = some (.cells #[.int .i64 (y.sg : Int), .slice (some ⟨b, off, none⟩) y.ds.length oc, .slice ta y.tms.length tc] 26 (0, 0)) := by rw [hW]; exact heap_alloc_new _ _
 have HSW := hid SW
 have BW := hid (B1.out.trans (bW.mono B1.out.size))
 have BW1 := hid bW
 rw [← hW]
 obtain ⟨s0, s1, s2, sf⟩ := tcell3 SW
 have sl := lt_of_block SW
 have cc : ∀ {o : Nat} {v : Value}, w1.cell? ⟨b, o, none⟩ = some v → W.cell? ⟨b, o, none⟩ = some v := fun h => (bW.cell (p := ⟨b, _, none⟩) hbl).trans h
 replace g0 := cc g0
 replace g1 := cc g1
 replace g2 := cc g2
 replace g3 := cc g3
 replace g4 := cc g4
 replace g5 := cc g5
 replace g6 := cc g6
 replace g7 := cc g7
 have hbW : b < W.heap.size := Nat.lt_of_lt_of_le hbl bW.size
 have ri : (r : Int) < (y.ds.length : Int) := by omega
 have HPW : Hid (Calls Tryz.prog 13 #[.slice mo mn mcap, .int .i64 0, .int .i64 (y.ds.length : Int)] W.drew fun e w'' => e = .returned (.int .i64 (r : Int)) ∧ w'' = W.drew) := hid (HP W.drew BW.out.drew)
 have HPW2 : Hid (Calls Tryz.prog 13 #[.slice mo mn mcap, .int .i64 0, .int .i64 (y.ds.length : Int)] (W.alloc (.cells #[.int .i64 0, .int .i64 0, .int .i64 0, .slice none 0 0, .slice none 0 0, .slice none 0 0, .slice none 0 0, .slice none 0 0] 38)).drew fun e w'' => e = .returned (.int .i64 (r : Int)) ∧ w'' = (W.alloc (.cells #[.int .i64 0, .int .i64 0, .int .i64 0, .slice none 0 0, .slice none 0 0, .slice none 0 0, .slice none 0 0, .slice none 0 0] 38)).drew) := hid (HP _ (BW.out.alloc BW.out.size _).drew)
 obtain ⟨H1, hH1⟩ : ∃ H, H = w1.heap.size := ⟨_, rfl⟩
 rw [← hH1] at s0 s1 s2 sf sl HSW ⊢
 have LH1 : Hid (w.heap.size ≤ H1) := hid (by rw [hH1]; exact B1.out.size)
 clear hW bW hat hcl0 hof hmx cc HP hdr SW hH1 DS
 go_cut [7] (fun s7 wx => ∃ HO, s7 = .pointer (some ⟨HO, 0, none⟩) ∧ wx.heap[HO]? = some (.cells #[.int .i64 p, .int .i64 qc, .int .i64 dc, .slice ko ks.length kc, .slice vo vs.length vc, .slice uo un uc, .slice so ss.length sc, .slice tt ts.length tc2] 38 (0, 0)) ∧ W.heap.size ≤ HO ∧ Below W.heap.size W wx)
 case first =>
  go_region_held3 (fun X => X.cell? ⟨H1, 1, none⟩ = some (.slice (some ⟨b, off, none⟩) y.ds.length oc) ∧ X.cell? ⟨b, off + r * 8, none⟩ = some (.int .i64 p) ∧ X.cell? ⟨b, off + r * 8 + 1, none⟩ = some (.int .i64 qc) ∧ X.cell? ⟨b, off + r * 8 + 2, none⟩ = some (.int .i64 dc) ∧ X.cell? ⟨b, off + r * 8 + 3, none⟩ = some (.slice ko ks.length kc) ∧ X.cell? ⟨b, off + r * 8 + 4, none⟩ = some (.slice vo vs.length vc) ∧ X.cell? ⟨b, off + r * 8 + 5, none⟩ = some (.slice uo un uc) ∧ X.cell? ⟨b, off + r * 8 + 6, none⟩ = some (.slice so ss.length sc) ∧ X.cell? ⟨b, off + r * 8 + 7, none⟩ = some (.slice tt ts.length tc2)) (go_keep)
   (first | (go_at_call 13; have q := HPW.out; with_reducible refine q.mono ?_; clear q; rintro e w2 ⟨rfl, hw2⟩; subst hw2) | (go_at_call 13; have q := HPW2.out; with_reducible refine q.mono ?_; clear q; rintro e w2 ⟨rfl, hw2⟩; subst hw2))
  all_goals
   go_wp2_with fail
   go_meet
   exact ⟨_, rfl, block_below (heap_alloc_new W _) ((Below.refl _ _).drew), Nat.le_refl _, (below1 _ _).drew⟩
 case rest =>
  obtain ⟨HO, rfl, hO, hHO, hb⟩ := hcut
  have B2 := hid hb
  have BO := hid hO
  have LO := hid hHO
  have S2 := hid (block_below HSW.out hb)
  have V2 := hid ((hb.cell (p := ⟨b, off + 4, none⟩) hbW).trans ((BW1.out.cell (p := ⟨b, off + 4, none⟩) hbl).trans V0.out))
  have hb2 : b < wc.heap.size := Nat.lt_of_lt_of_le hbW hb.size
  have QL := hid (hLimits_any (some ⟨b, off, none⟩) ta h0.vo y.ds.length oc y.tms.length tc h0.vn h0.vc y.sg b off wc (by omega) (by omega) rfl hb2 V2.out)
  clear hO hHO hb s0 s1 s2 sf sl g0 g1 g2 g3 g4 g5 g6 g7 HPW HPW2
  obtain ⟨s0, s1, s2, sf⟩ := tcell3 S2.out
  have sl := lt_of_block S2.out
  go_upto_region 7 with (go_at_call 9; have q := QL.out; with_reducible refine q.mono ?_; clear q; rintro e w3 ⟨rfl, hb3⟩; have B3 := hid hb3; clear s0 s1 s2 sf sl; obtain ⟨⟨a0, a1, a2, a3⟩, ⟨a4, a5, a6, a7⟩, af⟩ := oct_cells (block_below BO.out hb3); have al := lt_of_block (block_below BO.out hb3); clear hb3)
  obtain ⟨U, hU⟩ : ∃ U, U = w3.alloc (.cells #[.int .i64 (y.ds.length : Int), .int .i64 (y.sg : Int), .int .i64 (y.tms.length : Int), .int .i64 (vs.length : Int)] 40) := ⟨_, rfl⟩
  obtain ⟨HL, hHL⟩ : ∃ H, H = w3.heap.size := ⟨_, rfl⟩
  have bU : Below w3.heap.size w3 U := by rw [hU]; exact below1 _ _
  have LB : U.heap[HL]? = some (.cells #[.int .i64 (y.ds.length : Int), .int .i64 (y.sg : Int), .int .i64 (y.tms.length : Int), .int .i64 (vs.length : Int)] 40 (0, 0)) := by rw [hU, hHL]; exact heap_alloc_new _ _
  have OU : U.heap[HO]? = _ := block_below (block_below BO.out B3.out) bU
  have SU : U.heap[H1]? = _ := block_below (block_below S2.out B3.out) bU
  have WB : Below W.heap.size W U := (B2.out.trans (B3.out.mono B2.out.size)).trans (bU.mono (Nat.le_trans B2.out.size B3.out.size))
  have BU := hid (BW.out.trans (WB.mono BW.out.size))
  have OFU := hid (HOF.out.below (BW1.out.trans (WB.mono BW1.out.size)))
  have ITU := hid (ownsRow_below IT.out (BW1.out.trans (WB.mono BW1.out.size)))
  have BX : Hid (∀ X, Below U.heap.size U X → X.heap[H1]? = some (.cells #[.int .i64 (y.sg : Int), .slice (some ⟨b, off, none⟩) y.ds.length oc, .slice ta y.tms.length tc] 26 (0, 0)) ∧ X.heap[HO]? = some (.cells #[.int .i64 p, .int .i64 qc, .int .i64 dc, .slice ko ks.length kc, .slice vo vs.length vc, .slice uo un uc, .slice so ss.length sc, .slice tt ts.length tc2] 38 (0, 0)) ∧ X.heap[HL]? = some (.cells #[.int .i64 (y.ds.length : Int), .int .i64 (y.sg : Int), .int .i64 (y.tms.length : Int), .int .i64 (vs.length : Int)] 40 (0, 0))) := hid (fun X hb => ⟨block_below SU hb, block_below OU hb, block_below LB hb⟩)
  rw [← hU, ← hHL]
  obtain ⟨oq, od, opr, obd, okl, osu, ock, osl, otl⟩ := OKR.out
  simp only at obd okl ock osl otl
  have CK := hid ock
  have hbk := bankD_ok obd (by omega)
  have hvi := bankD_I64 obd
  have kl : ks.length ≤ 4 := okl
  have vl : vs.length ≤ 4 := by rw [← obd.1]; exact okl
  obtain ⟨lf, vs1, es1, e1, e2, e3, e4, lfl, lff, lbk, lvi, lvl, lel⟩ := chain_boot (l := ⟨y.ds.length, y.sg, y.tms.length, vs.length⟩) ock hbk rfl hvi
  have IB : Hid (∀ X, Below U.heap.size U X → Calls Tryz.prog 20 #[.agg #[.slice so ss.length sc, .slice tt ts.length tc2], .agg #[.int .i64 (y.ds.length : Int), .int .i64 (y.sg : Int), .int .i64 (y.tms.length : Int), .int .i64 (vs.length : Int)], .agg #[.slice ko ks.length kc, .slice vo vs.length vc]] X fun e w' => ∃ kv vv ev, e = .returned (.tuple #[.int .i64 (lf : Int), .agg #[kv, vv], ev]) ∧ OutE X.heap.size w' kv vv ev ks vs1 es1 ∧ Below X.heap.size X w') := hid (fun X hb => by
   have q := implBoot_any so tt ss.length sc ts.length tc2 ss ts y.ds.length y.sg y.tms.length vs.length ko vo ks.length kc vs.length vc ks vs X HMX.out.hs HMX.out.ht (by omega) (by omega) (OFU.out.hs.below hb) (OFU.out.ht.below hb) (OFU.out.hk.below hb) (OFU.out.hv.below hb)
   rw [e1, e2, e3, e4] at q
   exact q)
  have SB : Hid (∀ X, Below U.heap.size U X → Calls Tryz.prog 21 #[.agg #[.slice so ss.length sc, .slice tt ts.length tc2], .agg #[.int .i64 (y.ds.length : Int), .int .i64 (y.sg : Int), .int .i64 (y.tms.length : Int), .int .i64 (vs.length : Int)], .agg #[.slice ko ks.length kc, .slice vo vs.length vc]] X fun e w' => ∃ kv vv ev, e = .returned (.tuple #[.int .i64 (lf : Int), .agg #[kv, vv], ev]) ∧ OutE X.heap.size w' kv vv ev ks vs1 es1 ∧ Below X.heap.size X w') := hid (fun X hb => by
   have q := specBoot_any so tt ss.length sc ts.length tc2 ss ts y.ds.length y.sg y.tms.length vs.length ko vo ks.length kc vs.length vc ks vs X HMX.out.hs HMX.out.ht (by omega) (by omega) (OFU.out.hs.below hb) (OFU.out.ht.below hb) (OFU.out.hk.below hb) (OFU.out.hv.below hb) hvi
   rw [e1, e2, e3, e4] at q
   exact q)
  have LF := hid (And.intro lfl lff)
  have LBK := hid lbk
  have LVI := hid lvi
  have vl1 : vs1.length ≤ 4 := by rw [lvl]; exact vl
  have LVL := hid lvl
  have LEL := hid lel
  clear hU hHL bU LB OU SU WB e1 e2 e3 e4 lfl lff lbk lvi lvl lel oq od opr obd okl osu ock osl otl hbk hvi a0 a1 a2 a3 a4 a5 a6 a7 af al B2 B3 BO S2 V2 QL LO HSW hb2 hbW hbl OKR
  obtain ⟨_, xo, xl⟩ := BX.out U (Below.refl _ _)
  obtain ⟨⟨a0, a1, a2, a3⟩, ⟨a4, a5, a6, a7⟩, af⟩ := oct_cells xo
  have al := lt_of_block xo
  obtain ⟨c0, c1, c2, c3⟩ := quad_cells xl
  have cl := lt_of_block xl
  clear xo xl
  have QB := hid (IB.out U (Below.refl _ _))
  go_wp2_with (first
   | (go_at_call 20; have q := QB.out; with_reducible refine q.mono ?_; clear q; rintro e w4 ⟨kv, vv, ev, rfl, hO, hb⟩; have B4 := hid hb; have K4 := hid (hO.bk (W := U) (Nat.le_refl _)); have E4 := hid hO.e; obtain ⟨ka, kac, hkv⟩ := own_any hO.k; subst hkv; obtain ⟨va, vac, hvv⟩ := own_any hO.v; subst hvv; obtain ⟨ea, eac, hev⟩ := own_any hO.e; subst hev; have QS := hid (SB.out (w4.alloc (.cells #[.slice ka ks.length kac, .slice va vs1.length vac] 32)) (hb.alloc hb.size _)); clear a0 a1 a2 a3 a4 a5 a6 a7 af al c0 c1 c2 c3 cl; obtain ⟨_, xo, xl⟩ := BX.out w4 hb; obtain ⟨⟨a0, a1, a2, a3⟩, ⟨a4, a5, a6, a7⟩, af⟩ := oct_cells xo; have al := lt_of_block xo; obtain ⟨c0, c1, c2, c3⟩ := quad_cells xl; have cl := lt_of_block xl; clear xo xl hO hb)
   | (go_at_call 21; have q := QS.out; with_reducible refine q.mono ?_; clear q; rintro e w5 ⟨kv, vv, ev, rfl, hO, hb⟩; have C5 := hid (chs_start B4.out K4.out hb (hO.bk (W := U) (B4.out.alloc B4.out.size _).size)); have E5 := hid hO.e; have F5 := hid (ownsRow_below (ownsRow_below E4.out (below1 _ _)) hb); obtain ⟨kb, kbc, hkv⟩ := own_any hO.k; subst hkv; obtain ⟨vb, vbc, hvv⟩ := own_any hO.v; subst hvv; obtain ⟨eb, ebc, hev⟩ := own_any hO.e; subst hev; have QH := hid (hBank_bk C5.out.a C5.out.b (by omega) (by omega)); have xb := block_below (heap_alloc_new w4 (.cells #[.slice ka ks.length kac, .slice va vs1.length vac] 32)) hb; obtain ⟨x0, x1, _, _⟩ := pair_cells xb; have xl := lt_of_block xb; have QE := hid (fun X (hx : Below (w5.alloc (.cells #[.slice kb ks.length kbc, .slice vb vs1.length vbc] 32)).heap.size (w5.alloc (.cells #[.slice kb ks.length kbc, .slice vb vs1.length vbc] 32)) X) => hEffects_same (.slice ea es1.length eac) (.slice eb es1.length ebc) _ _ es1 X LEL.out (ownsRow_below (ownsRow_below F5.out (below1 _ _)) hx) (ownsRow_below (ownsRow_below E5.out (below1 _ _)) hx)); clear a0 a1 a2 a3 a4 a5 a6 a7 af al c0 c1 c2 c3 cl xb hO hb)
   | (go_at_call 16; have q := QH.out; with_reducible refine q.mono ?_; clear q; rintro e w6 ⟨rfl, hb⟩; have C6 := hid (C5.out.below hb); have QE6 := hid (QE.out w6 hb); clear x0 x1 xl hb)
   | (go_at_call 17; have q := QE6.out; with_reducible refine q.mono ?_; clear q; rintro e w7 ⟨rfl, hb⟩; have C7 := hid (C6.out.below hb); clear hb))
  obtain ⟨HB, hHB⟩ : ∃ H, H = w4.heap.size := ⟨_, rfl⟩
  obtain ⟨HB2, hHB2⟩ : ∃ H, H = w5.heap.size := ⟨_, rfl⟩
  rw [← hHB, ← hHB2] at C7 ⊢
  have il := IL.out
  clear hHB hHB2 QB QS QH QE QE6 C5 C6 E4 E5 F5 K4 B4 IB SB
  go_loopg [9, 12, 92] its.length (fun mm l1 l2 i X => ∃ (k lf : Nat) (vq : List Int) (kv vv kv2 vv2 : Value), k ≤ its.length ∧ mm = its.length - k ∧ l1 = .int .i64 lf ∧ l2 = .int .i64 lf ∧ i = .int .i64 k ∧ lf < ss.length ∧ leafB ss (lf : Int) = true ∧ bankB ks vq = true ∧ (∀ i, I64 (vq.getD i 0)) ∧ vq.length = vs.length ∧ ChS U HB HB2 kv vv kv2 vv2 ks vq X)
  case atStart => exact ⟨0, lf, vs1, _, _, _, _, by omega, by omega, rfl, rfl, rfl, LF.out.1, LF.out.2, LBK.out, LVI.out, LVL.out, C7.out⟩
  case round =>
   clear C7 LF LBK LVI LVL LEL vl1
   obtain ⟨k, lf, vq, kv, vv, kv2, vv2, hk, rfl, rfl, rfl, rfl, hll, hlf, hbk, hvi, hvl, hS⟩ := hrel
   have CS := hid hS
   by_cases hlt : k < its.length
   ·have ki : (k : Int) < (its.length : Int) := by omega
    obtain ⟨ka, kac, hkv⟩ := own_any hS.k1
    subst hkv
    obtain ⟨va, vac, hvv⟩ := own_any hS.v1
    subst hvv
    obtain ⟨kb, kbc, hkv2⟩ := own_any hS.k2
    subst hkv2
    obtain ⟨vb, vbc, hvv2⟩ := own_any hS.v2
    subst hvv2
    obtain ⟨ib, icap, e1, _, ibl⟩ := World.ownsRow.form ITU.out (by omega)
    simp only [Value.slice.injEq, true_and] at e1
    obtain ⟨rfl, rfl⟩ := e1
    obtain ⟨x, hx, c1, c2, c3, c4⟩ := itc_get its k hlt
    have ik := IOK.out x hx
    obtain ⟨xk, xo, xs, xv⟩ := x
    have rc : ∀ j, j < its.length * 4 → ∀ u, (itCells its)[j]? = some u → wr.cell? ⟨ib, j, none⟩ = some u := fun j hj u hu => (hS.bel.cell (p := ⟨ib, j, none⟩) ibl).trans ((World.ownsRow.cellAt ITU.out j hj).trans hu)
    have k1 := rc (k * 4) (by omega) _ c1
    have k2 := rc (k * 4 + 1) (by omega) _ c2
    have k3 := rc (k * 4 + 2) (by omega) _ c3
    have k4 := rc (k * 4 + 3) (by omega) _ c4
    have kl' : ib < wr.heap.size := Nat.lt_of_lt_of_le ibl hS.bel.size
    simp only at k1 k2 k3 k4
    have xs0 : 0 ≤ xs := ik.2.2.1.1
    have XV : Hid (I64 xv) := hid ik.2.2.2.1
    obtain ⟨xb, _, _⟩ := BX.out wr hS.bel
    obtain ⟨s0, s1, s2, sf⟩ := tcell3 xb
    have sl := lt_of_block xb
    have CY := hid (hS.below (below2 wr (.cells #[.int .i64 xk, .int .i64 xo, .int .i64 xs, .int .i64 xv] 70) (.cells #[.int .i64 xs, .int .i64 xv] 51)))
    have ki2 : k ≤ 20 := by omega
    clear rc c1 c2 c3 c4 ik hx xb ibl
    by_cases hsg : xs < (y.sg : Int)
    ·have hge : ¬ xs ≥ (y.sg : Int) := by omega
     obtain ⟨nl, vz, ez, hd, e1, e2, e3, e4, e5, nll, nlf, nbk, nvi, nvl, nel, nun⟩ := chain_step (l := ⟨y.ds.length, y.sg, y.tms.length, vs.length⟩) (sg := xs) (arg := xv) CK.out hbk (show (vq.length : Int) = (vs.length : Int) by omega) hvi hll hlf ⟨xs0, hsg⟩ XV.out
     have DI : Hid (∀ X, Below U.heap.size U X → SliceOf X ka ks.length ks → SliceOf X va vq.length vq → Calls Tryz.prog 15 #[.agg #[.slice so ss.length sc, .slice tt ts.length tc2], .agg #[.int .i64 (y.ds.length : Int), .int .i64 (y.sg : Int), .int .i64 (y.tms.length : Int), .int .i64 (vs.length : Int)], .int .i64 (lf : Int), .agg #[.slice ka ks.length kac, .slice va vq.length vac], .agg #[.int .i64 xs, .int .i64 xv]] X fun e w' => ∃ kv vv ev, e = .returned (.tuple #[.int .i64 (nl : Int), .agg #[kv, vv], ev, .bool hd]) ∧ OutE X.heap.size w' kv vv ev ks vz ez ∧ Below X.heap.size X w') := hid (fun X hb g1 g2 => by
      have q := implDispatch_any so tt ss.length sc ts.length tc2 ss ts y.ds.length y.sg y.tms.length vs.length lf ka va ks.length kac vq.length vac ks vq xs xv X HMX.out.hs HMX.out.ht (by omega) (by omega) (OFU.out.hs.below hb) (OFU.out.ht.below hb) g1 g2
      rw [e1, e2, e3, e4, e5] at q
      exact q)
     have DP : Hid (∀ X, Below U.heap.size U X → SliceOf X kb ks.length ks → SliceOf X vb vq.length vq → Calls Tryz.prog 14 #[.agg #[.slice so ss.length sc, .slice tt ts.length tc2], .agg #[.int .i64 (y.ds.length : Int), .int .i64 (y.sg : Int), .int .i64 (y.tms.length : Int), .int .i64 (vs.length : Int)], .int .i64 (lf : Int), .agg #[.slice kb ks.length kbc, .slice vb vq.length vbc], .agg #[.int .i64 xs, .int .i64 xv]] X fun e w' => ∃ kv vv ev, e = .returned (.tuple #[.int .i64 (nl : Int), .agg #[kv, vv], ev, .bool hd]) ∧ OutE X.heap.size w' kv vv ev ks vz ez ∧ Below X.heap.size X w') := hid (fun X hb g1 g2 => by
      have q := specDispatch_any so tt ss.length sc ts.length tc2 ss ts y.ds.length y.sg y.tms.length vs.length lf kb vb ks.length kbc vq.length vbc ks vq xs xv XV.out X HMX.out.hs HMX.out.ht (by omega) (by omega) (OFU.out.hs.below hb) (OFU.out.ht.below hb) g1 g2 hvi
      rw [e1, e2, e3, e4, e5] at q
      exact q)
     have DD : Hid (∀ X, Below U.heap.size U X → Calls Tryz.prog 22 #[.agg #[.slice so ss.length sc, .slice tt ts.length tc2], .int .i64 (nl : Int)] X fun e w' => ∃ g cap, e = .returned (.slice (some ⟨g, 0, none⟩) 0 cap) ∧ Below X.heap.size X w') := hid (fun X hb => by
      have q := specDrill_any so tt ss.length sc ts.length tc2 ss nl X HMX.out.hs HMX.out.ht (OFU.out.hs.below hb)
      rw [drill_leaf (chk_of CK.out) nll nlf] at q
      exact q.mono (fun e w' ⟨g, c, h1, _, h2⟩ => ⟨g, c, h1, h2⟩))
     have NL := hid (And.intro nll nlf)
     have NBK := hid nbk
     have NVI := hid nvi
     have NVL := hid nvl
     have NEL := hid nel
     have NUN := hid nun
     have vz4 : vz.length ≤ 4 := by rw [nvl, hvl]; exact vl
     have vq4 : vq.length ≤ 4 := by rw [hvl]; exact vl
     have HVL := hid hvl
     clear hS e1 e2 e3 e4 e5 nll nlf nbk nvi nvl nel nun hbk hvi hll hlf hsg hvl
     go_upto_region 16 with fail
     obtain ⟨Y, hY⟩ : ∃ Y, Y = (wr.alloc (.cells #[.int .i64 xk, .int .i64 xo, .int .i64 xs, .int .i64 xv] 70)).alloc (.cells #[.int .i64 xs, .int .i64 xv] 51) := ⟨_, rfl⟩
     have EY : Y.heap[wr.heap.size + 1]? = some (.cells #[.int .i64 xs, .int .i64 xv] 51 (0, 0)) := by rw [hY]; have := heap_alloc_new (wr.alloc (.cells #[.int .i64 xk, .int .i64 xo, .int .i64 xs, .int .i64 xv] 70)) (.cells #[.int .i64 xs, .int .i64 xv] 51); rw [World.size_alloc] at this; exact this
     rw [← hY] at CY ⊢
     obtain ⟨HE, hHE⟩ : ∃ H, H = wr.heap.size + 1 := ⟨_, rfl⟩
     rw [← hHE] at EY ⊢
     have EYH := hid EY
     clear hY hHE k1 k2 k3 k4 kl' s0 s1 s2 sf sl xs0 CS
     obtain ⟨_, xo, xl⟩ := BX.out Y CY.out.bel
     obtain ⟨⟨a0, a1, a2, a3⟩, ⟨a4, a5, a6, a7⟩, af⟩ := oct_cells xo
     have al := lt_of_block xo
     obtain ⟨c0, c1, c2, c3⟩ := quad_cells xl
     have cl := lt_of_block xl
     obtain ⟨p0, p1, p2, p3⟩ := pair_cells CY.out.b1
     have pl := lt_of_block CY.out.b1
     obtain ⟨q0, q1, q2, q3⟩ := pair_cells CY.out.b2
     have ql := lt_of_block CY.out.b2
     obtain ⟨r0, r1, r2, r3⟩ := pair_cells EYH.out
     have rl := lt_of_block EYH.out
     clear xo xl
     have QI := hid (DI.out Y CY.out.bel (slice_at CY.out.k1) (slice_at CY.out.v1))
     go_upto_region 17 with (go_at_call 15; have q := QI.out; with_reducible refine q.mono ?_; clear q; rintro e w8 ⟨kv, vv, ev, rfl, hO, hb⟩; have A8 := hid (aft_start CY.out.bel hO); have NA := hid (And.intro (Nat.ne_of_lt (lt_of_block (CY.out.below hb).b1)) (Nat.ne_of_lt (lt_of_block (CY.out.below hb).b2))); obtain ⟨kx, kxc, hkv⟩ := own_any hO.k; subst hkv; obtain ⟨vx, vxc, hvv⟩ := own_any hO.v; subst hvv; obtain ⟨ex, exc, hev⟩ := own_any hO.e; subst hev; have C8 := hid ((CY.out.below hb).below (below1 w8 (.cells #[.slice kx ks.length kxc, .slice vx vz.length vxc] 32))); have E8 := hid (block_below (block_below EYH.out hb) (below1 w8 (.cells #[.slice kx ks.length kxc, .slice vx vz.length vxc] 32))); clear a0 a1 a2 a3 a4 a5 a6 a7 af al c0 c1 c2 c3 cl p0 p1 p2 p3 pl q0 q1 q2 q3 ql r0 r1 r2 r3 rl hO hb)
     obtain ⟨Y1, hY1⟩ : ∃ Y, Y = w8.alloc (.cells #[.slice kx ks.length kxc, .slice vx vz.length vxc] 32) := ⟨_, rfl⟩
     obtain ⟨HA, hHA⟩ : ∃ H, H = w8.heap.size := ⟨_, rfl⟩
     rw [← hY1, ← hHA] at A8
     rw [← hHA] at NA
     rw [← hY1] at C8 E8 ⊢
     rw [← hHA]
     clear hY1 hHA QI CY EYH
     obtain ⟨_, xo, xl⟩ := BX.out Y1 C8.out.bel
     obtain ⟨⟨a0, a1, a2, a3⟩, ⟨a4, a5, a6, a7⟩, af⟩ := oct_cells xo
     have al := lt_of_block xo
     obtain ⟨c0, c1, c2, c3⟩ := quad_cells xl
     have cl := lt_of_block xl
     obtain ⟨p0, p1, p2, p3⟩ := pair_cells C8.out.b1
     have pl := lt_of_block C8.out.b1
     obtain ⟨q0, q1, q2, q3⟩ := pair_cells C8.out.b2
     have ql := lt_of_block C8.out.b2
     obtain ⟨r0, r1, r2, r3⟩ := pair_cells E8.out
     have rl := lt_of_block E8.out
     clear xo xl
     have QP := hid (DP.out Y1 C8.out.bel (slice_at C8.out.k2) (slice_at C8.out.v2))
     go_upto_region 18 with (go_at_call 14; have q := QP.out; with_reducible refine q.mono ?_; clear q; rintro e w9 ⟨kv, vv, ev, rfl, hO, hb⟩; have D9 := hid (aft_start C8.out.bel hO); have NC := hid (And.intro (Nat.ne_of_lt (lt_of_block (C8.out.below hb).b1)) (Nat.ne_of_lt (lt_of_block (C8.out.below hb).b2))); obtain ⟨ky, kyc, hkv⟩ := own_any hO.k; subst hkv; obtain ⟨vy, vyc, hvv⟩ := own_any hO.v; subst hvv; obtain ⟨ey, eyc, hev⟩ := own_any hO.e; subst hev; have A9 := hid ((A8.out.below hb).below (below1 w9 (.cells #[.slice ky ks.length kyc, .slice vy vz.length vyc] 32))); have C9 := hid ((C8.out.below hb).below (below1 w9 (.cells #[.slice ky ks.length kyc, .slice vy vz.length vyc] 32))); clear a0 a1 a2 a3 a4 a5 a6 a7 af al c0 c1 c2 c3 cl p0 p1 p2 p3 pl q0 q1 q2 q3 ql r0 r1 r2 r3 rl hO hb)
     obtain ⟨Y2, hY2⟩ : ∃ Y, Y = w9.alloc (.cells #[.slice ky ks.length kyc, .slice vy vz.length vyc] 32) := ⟨_, rfl⟩
     obtain ⟨HC, hHC⟩ : ∃ H, H = w9.heap.size := ⟨_, rfl⟩
     rw [← hY2, ← hHC] at D9
     rw [← hHC] at NC
     rw [← hY2] at A9 C9 ⊢
     rw [← hHC]
     clear hY2 hHC QP A8 C8 E8 DI DP
     obtain ⟨p0, p1, p2, p3⟩ := pair_cells A9.out.b
     have pl := lt_of_block A9.out.b
     obtain ⟨q0, q1, q2, q3⟩ := pair_cells D9.out.b
     have ql := lt_of_block D9.out.b
     have QH := hid (hBank_bk A9.out.k D9.out.k (by omega) (by omega))
     have nz := NEL.out
     cases hd
     all_goals
      go_upto_region 20 with (first
       | (go_at_call 16; have q := QH.out; with_reducible refine q.mono ?_; clear q; rintro e w10 ⟨rfl, hb⟩; have A10 := hid (A9.out.below hb); have D10 := hid (D9.out.below hb); have C10 := hid (C9.out.below hb); have QE := hid (hEffects_same (.slice ex ez.length exc) (.slice ey ez.length eyc) _ _ ez w10 nz A10.out.e D10.out.e); clear p0 p1 p2 p3 pl q0 q1 q2 q3 ql hb)
       | (go_at_call 17; have q := QE.out; with_reducible refine q.mono ?_; clear q; rintro e w11 ⟨rfl, hb⟩; have A11 := hid (A10.out.below hb); have D11 := hid (D10.out.below hb); have C11 := hid (C10.out.below hb); clear hb))
      clear QH QE A9 D9 C9 A10 D10 C10
      obtain ⟨_, xo, _⟩ := BX.out w11 C11.out.bel
      obtain ⟨⟨a0, a1, a2, a3⟩, ⟨a4, a5, a6, a7⟩, af⟩ := oct_cells xo
      have al := lt_of_block xo
      have QD := hid (DD.out w11 C11.out.bel)
      have QK : Hid (∀ X, Below w11.heap.size w11 X → Calls Tryz.prog 23 #[.agg #[.slice kx ks.length kxc, .slice vx vz.length vxc]] X fun e w' => e = .returned (.bool true) ∧ Below X.heap.size X w') := hid (fun X hb => by
       have q := specBankOK_any kx vx ks.length vz.length kxc vxc ks vz X (by omega) (by omega) (slice_at (A11.out.below hb).k.k) (slice_at (A11.out.below hb).k.v)
       rw [NBK.out] at q
       exact q)
      clear xo
      go_upto_region 22 with (first
       | (go_at_call 22; have q := QD.out; with_reducible refine q.mono ?_; clear q; rintro e w12 ⟨g, cap, rfl, hb⟩; have A12 := hid (A11.out.below hb); have D12 := hid (D11.out.below hb); have C12 := hid (C11.out.below hb); have QK2 := hid (QK.out w12 hb); clear a0 a1 a2 a3 a4 a5 a6 a7 af al; obtain ⟨p0, p1, p2, p3⟩ := pair_cells A12.out.b; have pl := lt_of_block A12.out.b; clear hb)
       | (go_at_call 23; have q := QK2.out; with_reducible refine q.mono ?_; clear q; rintro e w13 ⟨rfl, hb⟩; have A13 := hid (A12.out.below hb); have D13 := hid (D12.out.below hb); have C13 := hid (C12.out.below hb); clear p0 p1 p2 p3 pl hb))
      clear QD QK QK2 A11 D11 C11 A12 D12 C12 DD
     ·obtain ⟨u1, u2, u3⟩ := NUN.out (by first | rfl | trivial)
      subst u1
      subst u2
      subst u3
      obtain ⟨p0, p1, p2, p3⟩ := pair_cells A13.out.b
      have pl := lt_of_block A13.out.b
      obtain ⟨r0, r1, r2, r3⟩ := pair_cells C13.out.b1
      have rl := lt_of_block C13.out.b1
      have QH2 := hid (hBank_bk A13.out.k C13.out.a (by omega) (by omega))
      go_upto_region 24 with (go_at_call 16; have q := QH2.out; with_reducible refine q.mono ?_; clear q; rintro e w14 ⟨rfl, hb⟩; have A14 := hid (A13.out.below hb); have D14 := hid (D13.out.below hb); have C14 := hid (C13.out.below hb); clear p0 p1 p2 p3 pl r0 r1 r2 r3 rl hb)
      clear QH2 A13 D13 C13
      obtain ⟨p0, p1, p2, p3⟩ := pair_cells A14.out.b
      have pl := lt_of_block A14.out.b
      obtain ⟨q0, q1, q2, q3⟩ := pair_cells D14.out.b
      have ql := lt_of_block D14.out.b
      obtain ⟨r0, r1, r2, r3⟩ := pair_cells C14.out.b1
      have rl := lt_of_block C14.out.b1
      obtain ⟨t0, t1, t2, t3⟩ := pair_cells C14.out.b2
      have tl := lt_of_block C14.out.b2
      have n1 := NA.out.1
      have n2 := NA.out.1.symm
      have n3 := NA.out.2
      have n4 := NA.out.2.symm
      have n5 := NC.out.1
      have n6 := NC.out.1.symm
      have n7 := NC.out.2
      have n8 := NC.out.2.symm
      have n9 := C14.out.ne
      have n10 := C14.out.ne.symm
      go_wp2_with fail
      go_roundg (its.length - (k + 1))
      case measure => omega
      case rel => exact ⟨k + 1, nl, vz, _, _, _, _, by omega, rfl, rfl, rfl, by go_num, NL.out.1, NL.out.2, NBK.out, NVI.out, HVL.out, C14.out.next A14.out.k D14.out.k⟩
     ·obtain ⟨p0, p1, p2, p3⟩ := pair_cells A13.out.b
      have pl := lt_of_block A13.out.b
      obtain ⟨q0, q1, q2, q3⟩ := pair_cells D13.out.b
      have ql := lt_of_block D13.out.b
      obtain ⟨r0, r1, r2, r3⟩ := pair_cells C13.out.b1
      have rl := lt_of_block C13.out.b1
      obtain ⟨t0, t1, t2, t3⟩ := pair_cells C13.out.b2
      have tl := lt_of_block C13.out.b2
      have n1 := NA.out.1
      have n2 := NA.out.1.symm
      have n3 := NA.out.2
      have n4 := NA.out.2.symm
      have n5 := NC.out.1
      have n6 := NC.out.1.symm
      have n7 := NC.out.2
      have n8 := NC.out.2.symm
      have n9 := C13.out.ne
      have n10 := C13.out.ne.symm
      go_wp2_with fail
      go_roundg (its.length - (k + 1))
      case measure => omega
      case rel => exact ⟨k + 1, nl, vz, _, _, _, _, by omega, rfl, rfl, rfl, by go_num, NL.out.1, NL.out.2, NBK.out, NVI.out, NVL.out.trans HVL.out, C13.out.next A13.out.k D13.out.k⟩
    ·have hge : xs ≥ (y.sg : Int) := by omega
     clear hS hsg
     go_wp2_with fail
     go_roundg (its.length - (k + 1))
     case measure => omega
     case rel => exact ⟨k + 1, lf, vq, _, _, _, _, by omega, rfl, rfl, rfl, by go_num, hll, hlf, hbk, hvi, hvl, CY.out⟩
   ·obtain rfl : k = its.length := by omega
    clear hS
    go_wp2_with fail
    go_ret
    exact ⟨rfl, BU.out.trans (CS.out.bel.mono BU.out.size)⟩
end Go.Proofs.YtiimkhepplkocaaGreat

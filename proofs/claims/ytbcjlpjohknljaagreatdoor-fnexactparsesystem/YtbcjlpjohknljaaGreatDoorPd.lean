import Derived.Test.YtbcjlpjohknljaaGreatDoorMa
import Derived.Test.YtbcjlpjohknljaaGreatDoorDb
import Derived.Test.YtbcjlpjohknljaaGreatDoorLa
import Derived.Test.YtbcjlpjohknljaaGreatDoorSa
import Derived.Test.YtbcjlpjohknljaaGreatDoorSya
import Derived.Test.YtbcjlpjohknljaaGreatDoorEg
import Derived.Test.YtbcjlpjohknljaaGreatDoorMe
namespace Go.Proofs.YtbcjlpjohknljaaGreatDoor
open Go.RowKit Go.Sort
set_option linter.unusedVariables false
set_option linter.unusedSimpArgs false

/-! How many numbers a system has that a text gives. -/
def smZ (x : StmD) : Nat := 3 + 2 * x.code.length
def sdZ (x : StD) : Nat := 2 + szL smZ x.entry + szL smZ x.exit
def tdZ (x : TrD) : Nat := 3 + 2 * x.guard.length + szL smZ x.action
def odZ (o : ObD) : Nat := 3 + o.kinds.length + o.vals.length + o.subs.length + szL sdZ o.sts + szL tdZ o.trs
def syZ (s : SyD) : Nat := szL odZ s.obs + 2 * s.tms.length
section
variable {α β : Type} {z : α → Nat}
theorem szL_map (f : β → α) (y : β → Nat) (h : ∀ x, z (f x) = y x) : ∀ l : List β, szL z (l.map f) = szL y l
  | [] => rfl
  | x :: r => by simp [szL, h x, szL_map f y h r]
theorem szL_len (hz : ∀ x, 1 ≤ z x) : ∀ l : List α, l.length ≤ szL z l
  | [] => Nat.le_refl _
  | x :: r => by have := szL_len hz r; have := hz x; simp [szL]; omega
theorem szL_mem : ∀ {l : List α} {x : α}, x ∈ l → z x ≤ szL z l
  | y :: r, x, h => by
    rcases List.mem_cons.1 h with rfl | h
    · simp [szL]
    · have := szL_mem h; simp [szL]; omega
theorem szL_one (x : α) : szL z [x] = z x := by simp [szL]
theorem szL_const (c : Nat) : ∀ l : List α, szL (fun _ => c) l = c * l.length
  | [] => by simp [szL]
  | x :: r => by simp [szL, szL_const c r, Nat.mul_add]; omega
theorem szL_turn {f : α → α} {c : Nat} (h : ∀ x, z (f x) ≤ z x + c) (l : List α) : szL z (turnL l f) ≤ szL z l + c := by
  rcases List.eq_nil_or_concat l with rfl | ⟨r, x, rfl⟩
  · simp [turnL, szL]
  · rw [List.concat_eq_append, turnL_snoc, szL_app, szL_app, szL_one, szL_one]
    have := h x
    omega
theorem szL_mono {y : α → Nat} : ∀ {l : List α}, (∀ x ∈ l, z x ≤ y x) → szL z l ≤ szL y l
  | [], _ => Nat.le_refl _
  | x :: r, h => by
    have h1 := h x (List.mem_cons_self ..)
    have h2 := szL_mono (l := r) (fun a ha => h a (List.mem_cons_of_mem _ ha))
    simp [szL]; omega
end
theorem parZ_len (l : List (Int × Int)) : szL parZ l = 2 * l.length := szL_const 2 l
theorem intZ_len (l : List Int) : szL intZ l = l.length := (szL_const 1 l).trans (Nat.one_mul _)
theorem sm_z (x : SmG) : smZ x.dat = x.z := by simp [smZ, SmG.dat, SmG.z, parZ_len]
theorem st_z (x : StG) : sdZ x.dat = x.z := by simp [sdZ, StG.dat, StG.z, SmsG.dat, szL_map _ _ sm_z]
theorem tr_z (x : TrG) : tdZ x.dat = x.z := by simp [tdZ, TrG.dat, TrG.z, SmsG.dat, szL_map _ _ sm_z, parZ_len]
theorem ob_z (x : ObG) : odZ x.dat = x.z := by simp [odZ, ObG.dat, ObG.z, szL_map _ _ st_z, szL_map _ _ tr_z, intZ_len]
theorem sy_z (x : SyG) : syZ x.dat = x.z := by simp [syZ, SyG.dat, SyG.z, szL_map _ _ ob_z, parZ_len]
theorem rdS_len (fs : List (List UInt8)) : (rdS fs).code.length ≤ fs.length := by
  unfold rdS
  simp only
  split
  · rw [List.length_map]
    unfold stB stA
    split <;> split <;> simp only [List.length_tail] <;> omega
  · simp
theorem oneOb_z {s s' : SyD} {f : ObD → ObD} {c : Nat} (he : oneOb s f = some s') (hf : ∀ o, odZ (f o) ≤ odZ o + c) : syZ s' ≤ syZ s + c := by
  unfold oneOb at he
  split at he
  · cases he
  · injection he with he
    subst he
    have := szL_turn hf s.obs
    simp only [syZ]; omega
/-- A line gives no more numbers than it has fields for. -/
theorem lineW_z {s s' : SyD} {key : List UInt8} {r : List (List UInt8)} {bg : Bool} (hbg : bg = false → s.obs = []) (e : lineW s key r bg = some s') : syZ s' ≤ syZ s + (8 + 2 * r.length) := by
  by_cases k0 : key = kSig
  · subst k0; rw [lineSig] at e
    split at e
    · cases e
    · injection e with e; subst e; simp [syZ]
  by_cases k1 : key = kObj
  · subst k1; rw [lineObj] at e
    split at e
    · cases e
    · injection e with e; subst e; simp only [syZ, szL_app, szL_one, odZ, List.length_nil, szL]; omega
  by_cases k2 : key = kTim
  · subst k2; rw [lineTim] at e
    split at e
    · cases e
    · injection e with e; subst e; simp only [syZ, List.length_append, List.length_singleton]; omega
  by_cases k3 : key = kVar
  · subst k3; rw [lineVar _ _ _ hbg] at e
    split at e
    · cases e
    · have := oneOb_z (c := 2) e (fun o => by simp only [odZ, List.length_append, List.length_singleton]; omega); omega
  by_cases k4 : key = kSub
  · subst k4; rw [lineSub _ _ _ hbg] at e
    split at e
    · cases e
    · have := oneOb_z (c := 1) e (fun o => by simp only [odZ, List.length_append, List.length_singleton]; omega); omega
  by_cases k5 : key = kSta
  · subst k5; rw [lineSta _ _ _ hbg] at e
    split at e
    · cases e
    · have := oneOb_z (c := 2) e (fun o => by simp only [odZ, szL_app, szL_one, sdZ, szL]; omega); omega
  by_cases k6 : key = kOn
  · subst k6; rw [lineOn _ _ _ hbg] at e
    split at e
    · cases e
    · have hl : ((restAll [0, 1, 3] r).map rdI).length ≤ r.length := by simp only [restAll, List.length_map, List.length_tail]; omega
      have := oneOb_z (c := 3 + 2 * r.length) e (fun o => by simp only [odZ, szL_app, szL_one, tdZ, szL]; omega); omega
  have hc := rdS_len r
  by_cases k7 : key = kEnt
  · subst k7; rw [lineEnt _ _ _ hbg] at e
    split at e
    · cases e
    · have := oneOb_z (c := 3 + 2 * r.length) e (fun o => by
        have := szL_turn (z := sdZ) (f := fun t => { t with entry := t.entry ++ [rdS r] }) (c := 3 + 2 * r.length) (fun x => by simp only [sdZ, szL_app, szL_one, smZ]; omega) o.sts
        simp only [odZ]; omega); omega
  by_cases k8 : key = kExi
  · subst k8; rw [lineExi _ _ _ hbg] at e
    split at e
    · cases e
    · have := oneOb_z (c := 3 + 2 * r.length) e (fun o => by
        have := szL_turn (z := sdZ) (f := fun t => { t with exit := t.exit ++ [rdS r] }) (c := 3 + 2 * r.length) (fun x => by simp only [sdZ, szL_app, szL_one, smZ]; omega) o.sts
        simp only [odZ]; omega); omega
  by_cases k9 : key = kDo
  · subst k9; rw [lineDo _ _ _ hbg] at e
    split at e
    · cases e
    · have := oneOb_z (c := 3 + 2 * r.length) e (fun o => by
        have := szL_turn (z := tdZ) (f := fun t => { t with action := t.action ++ [rdS r] }) (c := 3 + 2 * r.length) (fun x => by simp only [tdZ, szL_app, szL_one, smZ]; omega) o.trs
        simp only [odZ]; omega); omega
  cases bg with
  | false => rw [lineW_un s r k0] at e; cases e
  | true => rw [lineW_else s r k0 k1 k2 k3 k4 k5 k6 k7 k8 k9] at e; cases e
theorem sysW_z : ∀ (ls : List (List UInt8)) (k : Nat) (s : SyD) (b : Bool), (b = false → s = sy0) → syZ (sysW ls k s b).1 ≤ syZ s + szL (fun l => 8 + 2 * (cut 32 l).length) ls
  | [], k, s, b, hb => by
    unfold sysW
    cases b <;> simp [syZ, sy0, szL]
  | l :: r, k, s, b, hb => by
    unfold sysW
    by_cases hs : skipB l = true
    · rw [if_pos hs]
      have := sysW_z r (k + 1) s b hb
      simp only [szL]; omega
    · rw [if_neg hs]
      cases hl : lineW s ((cut 32 l).getD 0 []) (cut 32 l).tail b with
      | none => simp [syZ, sy0, szL]
      | some s' =>
        have h1 := lineW_z (fun e => by rw [hb e]; rfl) hl
        have h2 := sysW_z r (k + 1) s' true (fun e => by cases e)
        simp only [szL, List.length_tail] at h1 ⊢
        omega
theorem cut_sum (c : UInt8) : ∀ l : List UInt8, szL (fun f => f.length + 1) (cut c l) = l.length + 1
  | [] => rfl
  | x :: l => by
    have ih := cut_sum c l
    unfold cut
    split
    · simp only [szL, List.length_nil, List.length_cons, ih]; omega
    · split
      · rename_i e; rw [e] at ih; simp [szL] at ih
      · rename_i f r e
        rw [e] at ih
        simp only [szL, List.length_cons] at ih ⊢
        omega
theorem szL_lin (a b : Nat) (ls : List (List UInt8)) : szL (fun l : List UInt8 => a + b * (l.length + 1)) ls = a * ls.length + b * szL (fun f => f.length + 1) ls := by
  induction ls with
  | nil => simp [szL]
  | cons l r ih =>
    simp only [szL, ih, List.length_cons]
    rw [Nat.mul_add a, Nat.mul_add b (l.length + 1)]
    omega
/-- No text gives more than this. -/
theorem parW_z (t : List UInt8) : syZ (parW t).1 ≤ 300010 := by
  unfold parW
  split
  · simp [syZ, sy0, szL]
  · rename_i h
    have h1 := sysW_z (cut 10 t) 0 sy0 false (fun _ => rfl)
    have h2 : szL (fun l => 8 + 2 * (cut 32 l).length) (cut 10 t) ≤ szL (fun l : List UInt8 => 8 + 2 * (l.length + 1)) (cut 10 t) := szL_mono (fun l _ => by have := cut_len 32 l; omega)
    have h3 := szL_lin 8 2 (cut 10 t)
    have h4 := cut_sum 10 t
    have h5 := cut_len 10 t
    have h6 : syZ sy0 = 0 := rfl
    rw [h6] at h1
    omega
theorem getD_mem {α : Type} {l : List α} {i : Nat} {d : α} (h : i < l.length) : l.getD i d ∈ l := by
  simp [List.getD_eq_getElem?_getD, h]
theorem fits_sm {ss : List StmD} (h : szL smZ ss ≤ 1048576) : Fits ss := by
  refine ⟨Nat.le_trans (szL_len (fun x => by unfold smZ; omega) ss) h, fun i hi => ?_⟩
  have := szL_mem (z := smZ) (getD_mem (d := stm0) hi)
  have e : smZ (ss.getD i stm0) = 3 + 2 * (ss.getD i stm0).code.length := rfl
  omega
theorem fits_st {ss : List StD} (h : szL sdZ ss ≤ 1048576) : FitsSt ss := by
  refine ⟨Nat.le_trans (szL_len (fun x => by unfold sdZ; omega) ss) h, fun i hi => ?_⟩
  have := szL_mem (z := sdZ) (getD_mem (d := st0) hi)
  have e : sdZ (ss.getD i st0) = 2 + szL smZ (ss.getD i st0).entry + szL smZ (ss.getD i st0).exit := rfl
  exact ⟨fits_sm (by omega), fits_sm (by omega)⟩
theorem fits_tr {ss : List TrD} (h : szL tdZ ss ≤ 1048576) : FitsTr ss := by
  refine ⟨Nat.le_trans (szL_len (fun x => by unfold tdZ; omega) ss) h, fun i hi => ?_⟩
  have := szL_mem (z := tdZ) (getD_mem (d := tr0) hi)
  have e : tdZ (ss.getD i tr0) = 3 + 2 * (ss.getD i tr0).guard.length + szL smZ (ss.getD i tr0).action := rfl
  exact ⟨by omega, fits_sm (by omega)⟩
theorem fits_obs {os : List ObD} (h : szL odZ os ≤ 1048576) : FitsObs os := by
  refine ⟨Nat.le_trans (szL_len (fun x => by unfold odZ; omega) os) h, fun i hi => ?_⟩
  have := szL_mem (z := odZ) (getD_mem (d := ob0) hi)
  have e : odZ (os.getD i ob0) = 3 + (os.getD i ob0).kinds.length + (os.getD i ob0).vals.length + (os.getD i ob0).subs.length + szL sdZ (os.getD i ob0).sts + szL tdZ (os.getD i ob0).trs := rfl
  exact ⟨by omega, by omega, by omega, fits_st (by omega), fits_tr (by omega)⟩
end Go.Proofs.YtbcjlpjohknljaaGreatDoor
namespace Go.Proofs.YtbcjlpjohknljaaGreatDoor
open Go.RowKit Go.Sort
set_option linter.unusedVariables false
attribute [local go_sem ↓] Go.wp_at_zero Go.wp_at_succ

/-- A system's value, its lists in sight. -/
abbrev sysU (d : SyD) (eo : Option Addr) (ec : Nat) (xo : Option Addr) (xc : Nat) : Value := .agg #[.int .i64 d.sigs, .slice eo d.obs.length ec, .slice xo d.tms.length xc]
theorem ans_form {B : Nat} {d : SyD} {cd : Int} {w w' : World} {e : Ending} (h : SyAns B (d, cd) w e w') : ∃ (G : SyG) (eo : Option Addr) (ec : Nat) (xo : Option Addr) (xc : Nat), G.dat = d ∧ G.val = sysU d eo ec xo xc ∧ e = .returned (.tuple #[sysU d eo ec xo xc, .int .i64 cd]) ∧ Flat w' B G.rows ∧ Below B w w' := by
  obtain ⟨G, hd, he, hf, hb⟩ := h
  obtain ⟨eo, ec, xo, xc, hv, _, _⟩ := SyG.read hf
  have hv2 : G.val = sysU d eo ec xo xc := by
    rw [hv]
    simp only at hd
    subst hd
    simp [sysU, SyG.dat]
  exact ⟨G, eo, ec, xo, xc, hd, hv2, by rw [he, hv2], hf, hb⟩
theorem ans_read {B : Nat} {d : SyD} {w : World} {G : SyG} {eo : Option Addr} {ec : Nat} {xo : Option Addr} {xc : Nat} (hd : G.dat = d) (hv : G.val = sysU d eo ec xo xc) (hf : Flat w B G.rows) : ObsOf w eo d.obs.length d.obs ∧ ItemsOf w xo d.tms.length d.tms := by
  obtain ⟨eo', ec', xo', xc', hv', h1, h2⟩ := SyG.read hf
  rw [hv'] at hv
  simp only [sysU, Value.agg.injEq] at hv
  have hv0 := congrArg Array.toList hv
  simp only [List.cons.injEq, Value.slice.injEq, and_true] at hv0
  obtain ⟨_, ⟨rfl, e1, _⟩, ⟨rfl, e2, _⟩⟩ := hv0
  rw [hd] at h1 h2
  rw [e1] at h1
  rw [e2] at h2
  exact ⟨h1, h2⟩
theorem ans_eq {B B' : Nat} {d : SyD} {w : World} {G G' : SyG} {eo eo' : Option Addr} {ec ec' : Nat} {xo xo' : Option Addr} {xc xc' : Nat} (hz : syZ d ≤ 1048576) (hd : G.dat = d) (hv : G.val = sysU d eo ec xo xc) (hf : Flat w B G.rows) (hd' : G'.dat = d) (hv' : G'.val = sysU d eo' ec' xo' xc') (hf' : Flat w B' G'.rows) : Calls Tryz.prog 6 #[sysU d eo ec xo xc, sysU d eo' ec' xo' xc'] w fun e w' => e = .returned (.bool true) ∧ Below w.heap.size w w' := by
  obtain ⟨h1, h2⟩ := ans_read hd hv hf
  obtain ⟨h3, h4⟩ := ans_read hd' hv' hf'
  unfold syZ at hz
  exact eqSystem_same d.sigs eo xo eo' xo' d.obs.length ec d.tms.length xc ec' xc' d.obs d.tms w (fits_obs (by omega)) (by omega) h1 h2 h3 h4

set_option maxRecDepth 100000 in
set_option maxHeartbeats 3200000 in
theorem lawParse (s : ByteArray) (w : World) (hv : VarsY w) :
    Calls Tryz.prog 3 #[.string s] w fun e w' => e = .returned (.bool true) ∧ Below w.heap.size w w' := by
  by_cases hbig : 1048576 < s.size
  · have hbig' : (1048576 : Int) < (s.size : Int) := by omega
    clear hv hbig
    go_enter Tryz.func3, Tryz.ntmps3
    go_wp2
    go_ret
    exact ⟨rfl, Below.refl _ _⟩
  · have hbig' : ¬ (1048576 : Int) < (s.size : Int) := by omega
    have PZ := parW_z (bl s)
    have C1 := specParse_any s w
    have C2 := hid (fun W (h : Below w.heap.size w W) => implParse_any s W (hv.below h))
    obtain ⟨⟨d, cd⟩, hp⟩ : ∃ p, p = parW (bl s) := ⟨_, rfl⟩
    rw [← hp] at C1 C2 PZ
    have ZD : Hid (syZ d ≤ 300010) := hid PZ
    have D1 := hid (C1.mono (fun _ _ h => ans_form h))
    have D2 := hid (fun W (h : Below w.heap.size w W) => (C2.out W h).mono (fun _ _ h => ans_form h))
    clear hv hp hbig C1 C2 PZ
    go_enter Tryz.func3, Tryz.ntmps3
    go_upto_region 4 with (go_at_call 4; with_reducible refine D1.out.mono ?_; rintro e w1 ⟨G1, eo1, ec1, xo1, xc1, hd1, hv1, rfl, hf1, hb1⟩; have GD1 := hid hd1; have GV1 := hid hv1; have F1 := hid hf1; have B1 := hid hb1; clear hd1 hv1 hf1 hb1)
    have BW1 : Below w.heap.size w (w1.alloc (.cells #[.int .i64 d.sigs, .slice eo1 d.obs.length ec1, .slice xo1 d.tms.length xc1] 25)) := B1.out.alloc B1.out.size _
    have X3 := hid (heap_alloc_new w1 (.cells #[.int .i64 d.sigs, .slice eo1 d.obs.length ec1, .slice xo1 d.tms.length xc1] 25))
    have F1low := hid (fun r (hr : r ∈ G1.rows) => F1.out.own r hr)
    have F1a := hid (F1.out.below (below1 w1 (.cells #[.int .i64 d.sigs, .slice eo1 d.obs.length ec1, .slice xo1 d.tms.length xc1] 25)))
    have P3L := hid (show w1.heap.size < (w1.alloc (.cells #[.int .i64 d.sigs, .slice eo1 d.obs.length ec1, .slice xo1 d.tms.length xc1] 25)).heap.size by simp)
    obtain ⟨P3, hP3⟩ : ∃ x, x = w1.heap.size := ⟨_, rfl⟩
    have P3W : Hid (w.heap.size ≤ P3) := hid (by rw [hP3]; exact B1.out.size)
    obtain ⟨W1, hW1⟩ : ∃ W, W = w1.alloc (.cells #[.int .i64 d.sigs, .slice eo1 d.obs.length ec1, .slice xo1 d.tms.length xc1] 25) := ⟨_, rfl⟩
    rw [← hW1] at BW1 X3 F1a P3L ⊢
    have W1S : Hid (w1.heap.size ≤ W1.heap.size) := hid (by rw [hW1]; simp)
    rw [← hP3] at X3 P3L ⊢
    have C3 := hid (D2.out W1 BW1)
    have BB1 := hid BW1
    clear hW1 hP3 BW1 F1 B1 D1
    go_upto_region 5 with (go_at_call 5; with_reducible refine C3.out.mono ?_; rintro e w2 ⟨G2, eo2, ec2, xo2, xc2, hd2, hv2, rfl, hf2, hb2⟩; have GD2 := hid hd2; have GV2 := hid hv2; have F2 := hid hf2; have B2 := hid hb2; clear hd2 hv2 hf2 hb2)
    have BW2 : Below W1.heap.size W1 (w2.alloc (.cells #[.int .i64 d.sigs, .slice eo2 d.obs.length ec2, .slice xo2 d.tms.length xc2] 25)) := B2.out.alloc B2.out.size _
    have F2a := hid (F2.out.box B2.out.size 25 [.int .i64 d.sigs, .slice eo2 d.obs.length ec2, .slice xo2 d.tms.length xc2])
    obtain ⟨P5, hP5⟩ : ∃ x, x = w2.heap.size := ⟨_, rfl⟩
    obtain ⟨W2, hW2⟩ : ∃ W, W = w2.alloc (.cells #[.int .i64 d.sigs, .slice eo2 d.obs.length ec2, .slice xo2 d.tms.length xc2] 25) := ⟨_, rfl⟩
    rw [← hW2] at BW2 ⊢
    have F2b : Hid (Flat W2 W1.heap.size (boxR 25 P5 [.int .i64 d.sigs, .slice eo2 d.obs.length ec2, .slice xo2 d.tms.length xc2] :: G2.rows)) := hid (by rw [hW2, hP5]; exact F2a.out)
    rw [← hP5]
    have BB2 := hid BW2
    have X3b := hid (block_below X3.out BW2)
    have F1b := hid (F1a.out.below BW2)
    have BV2 : Hid (Below w.heap.size w W2) := hid (BB1.out.trans (BW2.mono BB1.out.size))
    obtain ⟨⟨a0, a1, a2⟩, z0, z1, z2, al⟩ := three_cc X3b.out
    obtain ⟨⟨b0, b1, b2⟩, y0, y1, y2, bl0⟩ := three_cc (box_blk F2b.out.head)
    have EQ := hid (ans_eq (by have := ZD.out; omega) GD2.out GV2.out F2b.out.tail GD1.out GV1.out F1b.out)
    clear hW2 hP5 BW2 F2 F2a B2 C3 X3 F1a
    go_upto_region 8 with (go_at_call 6; with_reducible refine EQ.out.mono ?_; rintro e w3 ⟨rfl, hb3⟩; have B3 := hid hb3; clear hb3)
    have F2c : Hid (Flat w3 W1.heap.size (G2.rows ++ [boxR 25 P5 [.int .i64 d.sigs, .slice eo2 d.obs.length ec2, .slice xo2 d.tms.length xc2]])) := hid ((F2b.out.below B3.out).perm (List.perm_append_singleton _ _).symm)
    have X3c := hid (block_below X3b.out B3.out)
    have F1c := hid (F1b.out.below B3.out)
    have BV3 : Hid (Below w.heap.size w w3) := hid (BV2.out.trans (B3.out.mono BV2.out.size))
    have S3 : Hid (W1.heap.size ≤ w3.heap.size) := hid (Nat.le_trans BB2.out.size B3.out.size)
    have GZ : G2.z ≤ 300010 := by rw [← sy_z, GD2.out]; exact ZD.out
    have MK := hid (markSystem_flat G2 1 w3 W1.heap.size _ S3.out (by omega) (by omega) F2c.out)
    rw [GV2.out] at MK
    clear a0 a1 a2 z0 z1 z2 al b0 b1 b2 y0 y1 y2 bl0 EQ
    obtain ⟨⟨b0, b1, b2⟩, y0, y1, y2, bl0⟩ := three_cc (F2c.out.mem_box (t := 25) (H := P5) (xs := [.int .i64 d.sigs, .slice eo2 d.obs.length ec2, .slice xo2 d.tms.length xc2]) (by simp))
    obtain ⟨m4, hm4⟩ : ∃ m : Int, m = 1 + (G2.z : Int) := ⟨_, rfl⟩
    rw [← hm4] at MK
    have m40 : 0 ≤ m4 := by omega
    have HM4 := hid hm4
    have GZH := hid GZ
    clear hm4 GZ
    go_upto_region 10 with (go_at_call 7; with_reducible refine MK.out.mono ?_; rintro e w4 ⟨rfl, hf4, hb4⟩; have F4 := hid hf4; have B4 := hid hb4; clear hf4 hb4)
    have HE := hid (heldSystem_flat G2 1 w4 W1.heap.size _ (Nat.le_trans S3.out B4.out.size) (by omega) (by have := GZH.out; omega) F4.out)
    rw [GV2.out, ← HM4.out] at HE
    have X3d : Hid (w4.heap[P3]? = some (.cells #[.int .i64 d.sigs, .slice eo1 d.obs.length ec1, .slice xo1 d.tms.length xc1] 25 (0, 0))) := hid ((B4.out.block P3 P3L.out).trans X3c.out)
    have F1d : Hid (Flat w4 w.heap.size G1.rows) := hid (F1c.out.keep (fun r hr b hl hb => B4.out.block b (by
      have h1 := ((F1low.out r hr).lt b hb).2
      have h2 := W1S.out
      omega)))
    have BV4 : Hid (Below w.heap.size w w4) := hid (BV3.out.trans (B4.out.mono BB1.out.size))
    clear b0 b1 b2 y0 y1 y2 bl0 MK
    obtain ⟨⟨b0, b1, b2⟩, y0, y1, y2, bl0⟩ := three_cc (F4.out.mem_box (t := 25) (H := P5) (xs := [.int .i64 d.sigs, .slice eo2 d.obs.length ec2, .slice xo2 d.tms.length xc2]) (by simp))
    go_upto_region 15 with (go_at_call 8; with_reducible refine HE.out.mono ?_; rintro e w5 ⟨rfl, hb5⟩; have B5 := hid hb5; clear hb5)
    have BV5 : Hid (Below w.heap.size w w5) := hid (BV4.out.trans (B5.out.mono BV4.out.size))
    have C6 := hid (D2.out w5 BV5.out)
    have X3e := hid (block_below X3d.out B5.out)
    have F1e := hid (F1d.out.below B5.out)
    clear b0 b1 b2 y0 y1 y2 bl0 HE
    go_upto_region 16 with (go_at_call 5; with_reducible refine C6.out.mono ?_; rintro e w6 ⟨G3, eo3, ec3, xo3, xc3, hd3, hv3, rfl, hf3, hb3⟩; have GD3 := hid hd3; have GV3 := hid hv3; have F3 := hid hf3; have B6 := hid hb3; clear hd3 hv3 hf3 hb3)
    have BW6 : Below w5.heap.size w5 (w6.alloc (.cells #[.int .i64 d.sigs, .slice eo3 d.obs.length ec3, .slice xo3 d.tms.length xc3] 25)) := B6.out.alloc B6.out.size _
    have X9 := hid (heap_alloc_new w6 (.cells #[.int .i64 d.sigs, .slice eo3 d.obs.length ec3, .slice xo3 d.tms.length xc3] 25))
    have F3a := hid (F3.out.below (below1 w6 (.cells #[.int .i64 d.sigs, .slice eo3 d.obs.length ec3, .slice xo3 d.tms.length xc3] 25)))
    obtain ⟨P9, hP9⟩ : ∃ x, x = w6.heap.size := ⟨_, rfl⟩
    obtain ⟨W6, hW6⟩ : ∃ W, W = w6.alloc (.cells #[.int .i64 d.sigs, .slice eo3 d.obs.length ec3, .slice xo3 d.tms.length xc3] 25) := ⟨_, rfl⟩
    rw [← hW6] at BW6 X9 F3a ⊢
    rw [← hP9] at X9 ⊢
    have X3f := hid (block_below X3e.out BW6)
    have F1f := hid (F1e.out.below BW6)
    have BV6 : Hid (Below w.heap.size w W6) := hid (BV5.out.trans (BW6.mono BV5.out.size))
    obtain ⟨⟨a0, a1, a2⟩, z0, z1, z2, al⟩ := three_cc X3f.out
    obtain ⟨⟨b0, b1, b2⟩, y0, y1, y2, bl0⟩ := three_cc X9.out
    have EQ := hid (ans_eq (by have := ZD.out; omega) GD3.out GV3.out F3a.out GD1.out GV1.out F1f.out)
    clear hW6 hP9 BW6 C6
    go_wp2_with (go_at_call 6; with_reducible refine EQ.out.mono ?_; rintro e w7 ⟨rfl, hb7⟩; have B7 := hid hb7; clear hb7)
    go_ret
    exact ⟨rfl, BV6.out.trans (B7.out.mono BV6.out.size)⟩
end Go.Proofs.YtbcjlpjohknljaaGreatDoor

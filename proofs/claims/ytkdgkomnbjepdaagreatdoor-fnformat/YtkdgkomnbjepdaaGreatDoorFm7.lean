import Derived.Test.YtkdgkomnbjepdaaGreatDoorFm6
import Derived.Test.YtkdgkomnbjepdaaGreatDoorTie
import Derived.Test.YtkdgkomnbjepdaaGreatDoorCards
import Derived.SevenTiedAt
import Derived.ShutString
import Derived.ChangeOld
import Derived.Lib.SmallJoins
import Derived.Stop.Joined
namespace Go.Proofs.YtkdgkomnbjepdaaGreatDoor
open Go.ChangeShapes Go.WideShapes Go.ChangeAt Go.WideMaps Go.WideElems Go.RowKit Go.Joins
open Go.ChangeMaps (open_string shut_string)
set_option linter.unusedVariables false
set_option maxRecDepth 100000
theorem addr_addF (b off i : Nat) : (⟨b,off,none⟩ : Addr).add i = ⟨b,off + i,none⟩ := by
 by_cases h : i = 0
 ·subst h; simp [Addr.add]
 ·simp [Addr.add,h]
theorem bytesAt_trod {H : Type} {enc : TypeId × Value → H} {w : World} {base : Nat} {spare : Nat → Bool} {held : Bool} {fuel : Nat} {v : Value} {x : DataW H × List MemPlace}
  (h : DataW.trod enc Tryz.prog w base spare held fuel 22 [v] = some x) : ∃ ao n c bs,v = .slice ao n c ∧ BytesAt w ao n bs := by
 rcases open_ints Tryz.underlying22 Tryz.underlying5 (by kernel_rfl) h with ⟨hcs,_⟩ | ⟨a,l,c,zs,hcs,_,hl,hm,hz,_,hcell,hwz⟩
 ·simp at hcs
  subst hcs
  exact ⟨none,0,0,fun _ => 0,rfl,fun h => absurd h (by omega)⟩
 ·simp at hcs
  subst hcs
  have hlz : l ≤ zs.length := by rw [hz]; split <;> omega
  refine ⟨some a,l,c,fun i => zs.getD i 0,rfl,fun h0 => ?_⟩
  obtain ⟨b,off,spot⟩ := a
  have hc := hcell 0 (by omega)
  have hspot : spot = none := by simpa [Addr.add] using World.cell?_spot hc
  subst hspot
  refine ⟨b,off,rfl,block_lt_of_cell hc,fun i hi => ?_⟩
  have := hcell i (by omega)
  rw [addr_addF] at this
  have hb := bounds_u8 (hwz (zs.getD i 0) (by rw [List.getD_eq_getElem?_getD,List.getElem?_eq_getElem (show i < zs.length by omega)]; simp))
  refine ⟨this,hb.1,?_⟩
  show zs.getD i 0 < 256
  omega
theorem door_met (os : Os) (args : Array Value) : laidMetH Tryz.prog Rows.fnFormatRow.laid ((World.doorLaid Tryz.prog 244 os).forCall (fun _ _ => 0) ⟨#[],args,[]⟩).memory :=
 laidMetH_of_parts3 (fuel := 8) (laidMet_of_run' 8 (by kernel_rfl) (by kernel_rfl)) (by kernel_rfl) (by kernel_rfl)
theorem vars_cons {H : Type} {enc : TypeId × Value → H} {w : World} {sp : Nat → Bool} {n : String} {ns : List String} {gs : List (DataW H)} {ps : List MemPlace} (h : DataW.TrodVars enc Tryz.prog w sp (n :: ns) gs ps) : ∃ d ds q,gs = d :: ds ∧ DataW.TrodVars enc Tryz.prog w sp ns ds q := by
 cases gs with
 | nil => exact h.elim
 | cons d ds =>
  obtain ⟨_,_,_,_,_,q,_,_,_,_,h5,_⟩ := h
  exact ⟨d,ds,q,rfl,h5⟩
theorem vars_nil {H : Type} {enc : TypeId × Value → H} {w : World} {sp : Nat → Bool} {gs : List (DataW H)} {ps : List MemPlace} (h : DataW.TrodVars enc Tryz.prog w sp [] gs ps) : gs = [] := by
 cases gs with
 | nil => rfl
 | cons d ds => exact h.elim
theorem fmtLifted (os : Os) (started : os.Started) (H : Type) (enc : TypeId × Value → H) :
  ReturnsInHanded {} Tryz.checked os 3 .any (fun w args => (Rows.fnFormatSpec.pre enc Tryz.prog Tryz.f3 [] false w args ∧ laidMetH Tryz.prog Rows.fnFormatRow.laid w) ∧ sizedMet enc Tryz.prog Tryz.f3 (OpenSpec.ofChange Rows.fnFormatSpec) false w args)
   (Rows.fnFormatSpec.post enc Tryz.prog Tryz.f3 false true false false) := by
 refine returnsInHanded_of_change_and (C := Tryz.checked) (X := fun w _ => laidMetH Tryz.prog Rows.fnFormatRow.laid w) (fun _ _ _ hh h => h.of_heap hh) own started (by kernel_rfl) Tryz.func3
  (ChangeSpec.witness_shaped (enc := enc) (C := Tryz.checked) (os := os) (X := fun w _ => laidMetH Tryz.prog Rows.fnFormatRow.laid w) false (World.doorLaid Tryz.prog 244 os) #[.slice none 0 0] 8 rfl (World.shaped_of_RefB (by kernel_rfl) (by kernel_rfl)) (by kernel_rfl) (by kernel_rfl) (by kernel_rfl) (door_met os _)) ?_
 intro W base args ds gs before hval0 hW _ _ hL _
 have hval : ∀ (j : Nat) t v,Tryz.f3.params[j]? = some t → args[j]? = some v → Value.okWide Tryz.prog W .any base t v := hval0
 have hW' := hW
 obtain ⟨p,q,hA0,hV0,rfl,hfz,hnd⟩ := hW
 have hA : DataW.TrodAll enc Tryz.prog W 0 (fun _ => true) true Tryz.f3.params.toList args.toList ds p := hA0
 have hV : DataW.TrodVars enc Tryz.prog W (fun _ => true) ["loop.example/s0063/impl.itemWords", "loop.example/s0063/impl.stmForms", "loop.example/s0063/impl.errTooLong", "loop.example/s0063/impl.errNoSignals", "loop.example/s0063/impl.errPlace", "loop.example/s0063/impl.errField", "loop.example/s0063/impl.errFew", "loop.example/s0063/impl.errKeyword", "loop.example/s0063/impl.errMany"] gs q := hV0
 rw [Tryz.params3] at hA hval
 obtain ⟨v0,vs0,d0,ds0,p0,q0,hargs,rfl,rfl,h0,r0⟩ := trodAll_cons hA
 obtain ⟨rfl,rfl,rfl⟩ := trodAll_nil r0
 obtain rfl : args = #[v0] := by cases args; simp_all
 obtain ⟨g1,gs1,q1,rfl,k1⟩ := vars_cons hV
 obtain ⟨g2,gs2,q2,rfl,k2⟩ := vars_cons k1
 obtain ⟨g3,gs3,q3,rfl,k3⟩ := vars_cons k2
 obtain ⟨g4,gs4,q4,rfl,k4⟩ := vars_cons k3
 obtain ⟨g5,gs5,q5,rfl,k5⟩ := vars_cons k4
 obtain ⟨g6,gs6,q6,rfl,k6⟩ := vars_cons k5
 obtain ⟨g7,gs7,q7,rfl,k7⟩ := vars_cons k6
 obtain ⟨g8,gs8,q8,rfl,k8⟩ := vars_cons k7
 obtain ⟨g9,gs9,q9,rfl,k9⟩ := vars_cons k8
 obtain rfl := vars_nil k9
 have VS := vars_of_laid hL
 have k0 := h0
 have lt0 : ∀ x ∈ p0,x.block < W.heap.size := by obtain ⟨m,hm⟩ := k0; exact DataW.trod_lt m _ _ _ hm
 obtain ⟨a0,len0,cap0,rfl⟩ := okWide_slice Tryz.underlying22 (hval 0 22 v0 rfl rfl)
 obtain ⟨co,n,cap,bs,hv0,hb0⟩ : ∃ ao n c bs,Value.slice a0 len0 cap0 = .slice ao n c ∧ BytesAt W ao n bs := by
  obtain ⟨fuel,hf⟩ := h0
  exact bytesAt_trod hf
 simp at hv0
 obtain ⟨rfl,rfl,rfl⟩ := hv0
 clear hA0 hV0 hval0 k1 k2 k3 k4 k5 k6 k7 k8 k9
 refine (lawFormat _ _ _ W hb0 VS).mono fun e W' ⟨he,bel⟩ => ?_
 subst he
 have hvars := Below.trodVars laidOut bel (by kernel_rfl) hV
 exact ⟨_,rfl,_,_,_,[],_,_,hW',trodAll_mk1 (shut_bool Tryz.underlying4 _),(trodAll_cons_mk (Below.trod laidOut (by kernel_rfl) (of_decide_eq_true (by kernel_rfl)) k0 bel lt0) trodAll_mk0),hvars,bel.frame _,fun h => by cases h⟩
theorem fnFormat_over : Rows.FnFormatSaid :=
 OpenClaim.holds_of_wide 3 Tryz.f3 rfl rfl rfl rfl rfl rfl rfl ⟨rfl,rfl,rfl,rfl,rfl⟩ rfl rfl rfl rfl rfl (by kernel_rfl) Tryz.func3 (by kernel_rfl)
  (of_decide_eq_true (by kernel_rfl)) (by unfold Func.isWrapper; first | (rw [if_pos (by decide +kernel)]; kernel_rfl) | (rw [if_neg (by decide +kernel)]; exact ⟨rfl,rfl⟩))
  (fun os started H enc _ => fmtLifted os started H enc)
end Go.Proofs.YtkdgkomnbjepdaaGreatDoor

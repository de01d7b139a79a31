/- What steps make, one behind the other, all others swept behind each. -/
import Derived.Test.YtbklgjmkdhinpaaGreatDoorErAs
import Derived.Test.YtbklgjmkdhinpaaGreatDoorCards
import Derived.Test.YtbklgjmkdhinpaaGreatDoorTie
import Derived.ProofKit
import Derived.OpenShut
import Derived.Deep.DeepHandedRow
import Derived.LaidHandle
import Derived.LaidSub
import Derived.Test.YtbklgjmkdhinpaaGreatDoorFmOneS
import Derived.Test.YtbklgjmkdhinpaaGreatDoorBdNode
import Derived.Test.YtbklgjmkdhinpaaGreatDoorFmOps
import Derived.Test.YtbklgjmkdhinpaaGreatDoorCnNum
import Derived.Test.YtbklgjmkdhinpaaGreatDoorArTop
set_option maxHeartbeats 2000000
set_option maxRecDepth 100000
namespace Go.Proofs.YtbklgjmkdhinpaaGreatDoor
open Go.RowKit Go.Extern.Stop Go.Stop Go.Extern Go.Proofs.YtbklgjmkdhinpaaGreatDoor.Bd
def Glob (w : World) : Prop := w.cell? ⟨1, 0, none⟩ = some (.iface 191 (.agg #[.pointer (some ⟨5, 33, none⟩)]))
theorem Glob.lt {w : World} (h : Glob w) : 1 < w.heap.size := by
 rcases Nat.lt_or_ge 1 w.heap.size with h1 | h1
 ·exact h1
 ·unfold Glob at h
  simp [World.cell?, Array.getElem?_eq_none h1] at h
theorem Glob.below {w w' : World} (h : Glob w) (hb : Below w.heap.size w w') : Glob w' := (hb.cell (p := ⟨1, 0, none⟩) h.lt).trans h
theorem tell_errno (n : Int) (w : World) (hg : Glob w) :
  Calls Tryz.prog 101 #[.iface 42 (.int .i64 n)] w fun e w' => e = .returned (.int .i64 n) /\ Below w.heap.size w w' := by
 have H := Errs.as_hit n ⟨w.heap.size, 0, none⟩ (.int .i64 0) (w.alloc (.cells #[.int .i64 0] 42)) (hg.below ((Below.refl _ _).alloc (Nat.le_refl _) _)) (cell1_0 _ _ _) (frozen1_0 _ _ _)
 go_enter Tryz.func101, Tryz.ntmps101
 go_wp2_with fail
 refine H.mono ?_
 rintro e w' ⟨rfl, hw⟩
 have hc : w'.cell? ⟨w.heap.size, 0, none⟩ = some (.int .i64 n) := by
  rw [hw]
  refine World.cell?_setCell_same' _ _ _ ?_
  rw [World.cell?_alloc_lt _ _ ⟨w.heap.size, 0, none⟩ (by simp; omega), World.cell?_alloc_lt _ _ ⟨w.heap.size, 0, none⟩ (by simp; omega), World.cell?_alloc_lt _ _ ⟨w.heap.size, 0, none⟩ (by simp; omega), World.cell?_alloc_lt _ _ ⟨w.heap.size, 0, none⟩ (by simp), cell1_0]
  rfl
 have hb : Below w.heap.size w w' := by
  rw [hw]
  exact ((((((Below.refl _ _).alloc (Nat.le_refl _) _).alloc (by simp) _).alloc (by simp; omega) _).alloc (by simp; omega) _).alloc (by simp; omega) _).setCell (Nat.le_refl _) _
 clear H hw
 go_wp2
 go_ret
 exact ⟨rfl, hb⟩
theorem tell_nil (w : World) : Calls Tryz.prog 101 #[.nilIface] w fun e w' => e = .returned (.int .i64 0) /\ w = w' := by
 go_enter Tryz.func101, Tryz.ntmps101
 go_wp2
 go_ret
 exact ⟨rfl, rfl⟩
end Go.Proofs.YtbklgjmkdhinpaaGreatDoor
namespace Go.Proofs.YtbklgjmkdhinpaaGreatDoor
open Go.ChangeShapes Go.WideShapes Go.ChangeAt Go.RowKit
theorem own : ownKnob Tryz.prog.godebug = none := by kernel_rfl
theorem gErr : Tryz.prog.globalNamed "errors.errorType" = some 1 := by kernel_rfl
theorem rtypeIs : (Tryz.prog.cutTypes.find? (·.1 == "internal/reflectlite.rtype")).map (·.2) = some 191 := by kernel_rfl
theorem oneRow : ((List.range 230).filter fun t => Tryz.prog.rowNamed t [101, 114, 114, 111, 114]) = [33] := by kernel_rfl
theorem typesSize : Tryz.prog.types.size = 230 := by kernel_rfl
theorem glob_of {W : World} {l : List (String × DataW Unit)} (h : laidMetH Tryz.prog l W) (hk : (l.filter fun x => x.1 == "errors.errorType") = [("errors.errorType", Rows.laid_errors_errorType)]) : Glob W := by
 have h2 := h.filter fun x => x.1 == "errors.errorType"
 rw [hk] at h2
 have h3 : laidMet Tryz.prog [] W /\ handlesMet Tryz.prog [("errors.errorType", Rows.laid_errors_errorType)] W := h2
 obtain ⟨name, u, ty, e1, e2, e3, e4, e5⟩ := h3.2 _ (List.mem_singleton.2 rfl)
 have en : name = [101, 114, 114, 111, 114] := (Option.some.inj e1).symm
 subst en
 obtain rfl := Option.some.inj (rtypeIs.symm.trans e2)
 have hm : ty ∈ (List.range 230).filter fun t => Tryz.prog.rowNamed t [101, 114, 114, 111, 114] := List.mem_filter.2 ⟨List.mem_range.2 (by rw [<- typesSize]; exact e3), e4⟩
 rw [oneRow] at hm
 obtain rfl := List.mem_singleton.1 hm
 have hh : typeHandle Tryz.prog 33 = .pointer (some ⟨5, 33, none⟩) := by kernel_rfl
 rw [hh] at e5
 have h6 := World.var?_cell gErr e5 0
 unfold Glob; simpa using h6
def refill (cs : Array Value) : Obj -> Obj
 | .cells _ t frozen => .cells cs t frozen
 | o => o
noncomputable def laidWorld (os : Os) : World :=
 { World.holding Tryz.prog os ⟨#[], #[], []⟩ with heap := (World.holding Tryz.prog os ⟨#[], #[], []⟩).heap.modify 1 (refill #[.iface 191 (.agg #[.pointer (some ⟨5, 33, none⟩)])]) }
end Go.Proofs.YtbklgjmkdhinpaaGreatDoor
namespace Go.Proofs.YtbklgjmkdhinpaaGreatDoor.Fm
open Go.RowKit Go.Maps Go.Proofs.YtbklgjmkdhinpaaGreatDoor.Bd
section
variable {B s b : Nat} {c : Ctx} {O : Nat -> Prop} {vars room : Nat} {ns : List Nd} {w : World} {k : K} {F : FuncId} {bw bk bd ba dm : Nat} {A : Value}
theorem walk_once {a d : Int} (hC : CtxAt B w c O vars ns) (hF : IsBase c F k bw bk bd ba dm A) (x : Int) (hk : knownZ k a d = some x) :
  Calls Tryz.prog 109 #[.int .i64 a, .int .i64 d, .pointer (some ⟨bw, 0, none⟩), .pointer (some ⟨bk, 0, none⟩), .pointer (some ⟨bd, 0, none⟩), .pointer (some ⟨ba, 0, none⟩)] w fun e w' => e = .returned (.int .i64 x) /\ w = w' := by
 have cw := (hC.box _ hF.iw).2.1
 have ck := (hC.box _ hF.ik).2.1
 have w1 := hC.w1
 have HK : Hid (∀ W, Calls Tryz.prog F #[.int .i64 a, .int .i64 d] W fun e w' => e = .returned (.tuple #[.int .i64 x, .bool true]) /\ W = w') := fun W => by
  have := hF.knows a d W
  rw [(knX_some hk).1, (knX_some hk).2] at this; exact this
 have hent := hF.enters
 clear hC hF hk
 go_enter Tryz.func109, Tryz.ntmps109
 go_wp2_with fail
 refine (HK.out _).mono ?_
 rintro e w2 ⟨rfl, rfl⟩
 go_wp2
 go_ret
 exact ⟨rfl, rfl⟩
def MkB (F0 : FuncId) (k : K) : Prop := ∀ {B : Nat} {c : Ctx} {O : Nat -> Prop} {vars : Nat} {ns : List Nd} {w : World} {wk : Nat}, CtxAt B w c O vars ns -> c.wk = wk ->
 Calls Tryz.prog F0 #[.pointer (some ⟨wk, 0, none⟩)] w fun e w' => ∃ c' sw sk sd sa F dm A, e = .returned (.func (.func 109) #[] #[.pointer (some ⟨sw, 0, none⟩), .pointer (some ⟨sk, 0, none⟩), .pointer (some ⟨sd, 0, none⟩), .pointer (some ⟨sa, 0, none⟩)]) /\ CtxAt B w' c' O vars ns /\ Le w.heap.size c c' /\ Below w.heap.size w w' /\ IsBase c' F k sw sk sd sa dm A
theorem mkb_or : MkB 42 .or := fun hC hw => (mk_or hC hw).mono fun _ _ ⟨c1, sw, sk, sd, sa, h1, h2, h3, h4, dm, _, h5, _⟩ => ⟨c1, sw, sk, sd, sa, _, dm, _, h1, h2, h3, h4, h5⟩
theorem mkb_and : MkB 43 .and := fun hC hw => (mk_and hC hw).mono fun _ _ ⟨c1, sw, sk, sd, sa, h1, h2, h3, h4, dm, _, h5, _⟩ => ⟨c1, sw, sk, sd, sa, _, dm, _, h1, h2, h3, h4, h5⟩
theorem mkb_less : MkB 44 .less := fun hC hw => (mk_less hC hw).mono fun _ _ ⟨c1, sw, sk, sd, sa, h1, h2, h3, h4, dm, _, h5, _⟩ => ⟨c1, sw, sk, sd, sa, _, dm, _, h1, h2, h3, h4, h5⟩
theorem mkb_join : MkB 45 .join := fun hC hw => (mk_join hC hw).mono fun _ _ ⟨c1, sw, sk, sd, sa, h1, h2, h3, h4, dm, _, _, _, _, _, _, h5, _⟩ => ⟨c1, sw, sk, sd, sa, _, dm, _, h1, h2, h3, h4, h5⟩
theorem mkb_without : MkB 46 .without := fun hC hw => (mk_without hC hw).mono fun _ _ ⟨c1, sw, sk, sd, sa, h1, h2, h3, h4, dm, _, _, _, _, _, _, h5, _⟩ => ⟨c1, sw, sk, sd, sa, _, dm, _, h1, h2, h3, h4, h5⟩
theorem mkb_least : MkB 47 .least := fun hC hw => (mk_least hC hw).mono fun _ _ ⟨c1, sw, sk, sd, sa, h1, h2, h3, h4, dm, _, _, _, _, _, _, h5, _⟩ => ⟨c1, sw, sk, sd, sa, _, dm, _, h1, h2, h3, h4, h5⟩
theorem mkb_hits : MkB 48 .hits := fun hC hw => (mk_hits hC hw).mono fun _ _ ⟨c1, sw, sk, sd, sa, h1, h2, h3, h4, dm, _, _, _, _, _, _, _, _, _, _, _, h5, _⟩ => ⟨c1, sw, sk, sd, sa, _, dm, _, h1, h2, h3, h4, h5⟩
theorem asked_once {k : K} {F0 : FuncId} (hmk : MkB F0 k) (hent : ∀ (args : Array Value) (w : World), (callFunc F0 args).run Tryz.prog w = .ok (.enter F0 args) w) (hS : FamAt B w s b O vars room ns) {a d : Int} (ha : hasB ns a = true) (hd : hasB ns d = true) {x : Int} (hk : knownZ k a d = some x) :
  Calls Tryz.prog 41 #[.pointer (some ⟨s, 0, none⟩), .func (.func F0) #[] #[], .int .i64 a, .int .i64 d] w fun e w' => e = .returned (.tuple #[.int .i64 x, .nilIface]) /\ Below w.heap.size w w' := by
 have hb1 := below_new w (.cells #[.int .i64 a, .int .i64 d] 3)
 have hS1 := hS.new hb1
 have hl := hS.len
 have ia := has_i64 ha (by omega)
 have ic := has_i64 hd (by omega)
 have hI : IntsAt (w.alloc (.cells #[.int .i64 a, .int .i64 d] 3)) w.heap.size [a, d] := two_ints w a d ia ic
 have hP := present_any (cp := 2) hS1.space (by omega) w.heap.size [a, d] hI (by simp) (fun x hx => by simp at hx; rcases hx with rfl | rfl <;> assumption)
 have hb2 := hb1.alloc hb1.size (.cells #[.pointer (some ⟨s, 0, none⟩), .nilIface] 95)
 have hC2 := ctx_start hS1
 have e1 : (w.alloc (.cells #[.int .i64 a, .int .i64 d] 3)).heap.size = w.heap.size + 1 := by simp
 rw [e1] at hC2
 have HC := Lib.hid hC2
 have HB := Lib.hid hb2
 have HP := Lib.hid hP
 have HKN := Lib.hid hk
 have z2 : w.heap.size + 1 < ((w.alloc (.cells #[.int .i64 a, .int .i64 d] 3)).alloc (.cells #[.pointer (some ⟨s, 0, none⟩), .nilIface] 95)).heap.size := by simp
 clear hS hS1 hb1 hb2 hI hP hC2 e1 hk
 go_enter Tryz.func41, Tryz.ntmps41
 go_wp2_with fail
 refine HP.out.mono ?_
 rintro e w1 ⟨rfl, rfl⟩
 clear HP
 go_wp2_with fail
 generalize ((w.alloc (.cells #[.int .i64 a, .int .i64 d] 3)).alloc (.cells #[.pointer (some ⟨s, 0, none⟩), .nilIface] 95)) = W2 at *
 refine (hmk HC.out rfl).mono ?_
 rintro e w3 ⟨c3, sw, sk, sd, sa, F, dm, A, rfl, hC3, hL3, hb3, hS3⟩
 have HB3 := Lib.hid (HB.out.trans (hb3.mono HB.out.size))
 go_wp2_with fail
 refine (walk_once hC3 hS3 x HKN.out).mono ?_
 rintro e w4 ⟨rfl, rfl⟩
 go_wp2_with fail
 refine (answer_any hC3 hL3.wk x).mono ?_
 rintro e w5 ⟨rfl, rfl⟩
 clear hC3 hL3 hb3 hS3
 go_wp2
 go_ret2
 exact ⟨rfl, HB3.out⟩
theorem present_no (hS : SpaceAt B w s b O vars (room : Int) ns) (hl : ns.length <= 90000) (bf : Nat) {cp : Nat} (fs : List Int) (hF : IntsAt w bf fs) (hfl : fs.length <= 1000) (hno : ∃ x ∈ fs, ¬ hasB ns x = true) :
  Calls Tryz.prog 29 #[.pointer (some ⟨s, 0, none⟩), .slice (some ⟨bf, 0, none⟩) fs.length cp] w fun e w' => e = .returned (.iface 42 (.int .i64 7)) /\ w = w' := by
 have c0 := hS.c0
 have HS := Lib.hid hS
 have HF := Lib.hid hF
 have HA := Lib.hid hno
 clear hS hF hno
 go_enter Tryz.func29, Tryz.ntmps29
 go_wp2_with fail
 go_loop [9] (fun i => ∃ k : Nat, k <= fs.length /\ (∀ x ∈ fs.take k, hasB ns x = true) /\ i = .int .i64 (k : Int)) (fun i => fs.length - (intOf i).toNat)
 case atStart => exact ⟨0, Nat.zero_le _, fun x hx => by simp at hx, rfl⟩
 case round =>
  obtain ⟨k, hk, hall, rfl⟩ := hrel
  by_cases hlt : k < fs.length
  ·have ck := HF.out.cells k hlt
   have HH := Lib.hid (spHas HS.out fs[k] (HF.out.ok _ (List.getElem_mem hlt)) hl)
   have HT := Lib.hid (show fs.take (k + 1) = fs.take k ++ [fs[k]] from List.take_succ_eq_append_getElem hlt)
   have HALL := Lib.hid hall
   clear hall
   generalize fs[k] = x at *
   cases hx : hasB ns x with
   | true =>
    rw [hx] at HH
    have HX := Lib.hid hx
    clear hx
    go_wp2_with fail
    refine HH.out.mono ?_
    rintro e w' ⟨rfl, rfl⟩
    clear HH
    go_wp2
    go_round
    case rel => exact ⟨k + 1, by omega, fun y hy => by
     rw [HT.out, List.mem_append, List.mem_singleton] at hy
     rcases hy with hy | rfl
     ·exact HALL.out y hy
     ·exact HX.out, by go_num⟩
    case measure => simp [intOf]; omega
   | false =>
    rw [hx] at HH
    clear hx
    go_wp2_with fail
    refine HH.out.mono ?_
    rintro e w' ⟨rfl, rfl⟩
    clear HH
    go_wp2
    go_ret
    exact ⟨rfl, rfl⟩
  ·exfalso
   obtain ⟨x, hx, hn⟩ := HA.out
   rw [List.take_of_length_le (by omega)] at hall
   exact hn (hall x hx)
theorem asked_no (hS : FamAt B w s b O vars room ns) (F0 : FuncId) {a d : Int} (ia : I64 a) (id : I64 d) (hno : ¬ (hasB ns a = true /\ hasB ns d = true)) :
  Calls Tryz.prog 41 #[.pointer (some ⟨s, 0, none⟩), .func (.func F0) #[] #[], .int .i64 a, .int .i64 d] w fun e w' => e = .returned (.tuple #[.int .i64 0, .iface 42 (.int .i64 7)]) /\ Below w.heap.size w w' := by
 have hb1 := below_new w (.cells #[.int .i64 a, .int .i64 d] 3)
 have hS1 := hS.new hb1
 have hl := hS.len
 have hI : IntsAt (w.alloc (.cells #[.int .i64 a, .int .i64 d] 3)) w.heap.size [a, d] := two_ints w a d ia id
 have HP := Lib.hid (present_no (cp := 2) hS1.space (by omega) w.heap.size [a, d] hI (by simp) (by
  by_cases h : hasB ns a = true
  ·exact ⟨d, by simp, fun h2 => hno ⟨h, h2⟩⟩
  ·exact ⟨a, by simp, h⟩))
 have HB := Lib.hid hb1
 clear hS hS1 hb1 hI hno
 go_enter Tryz.func41, Tryz.ntmps41
 go_wp2_with fail
 refine HP.out.mono ?_
 rintro e w1 ⟨rfl, rfl⟩
 clear HP
 go_wp2
 go_ret2
 exact ⟨rfl, HB.out⟩
end
end Go.Proofs.YtbklgjmkdhinpaaGreatDoor.Fm
namespace Go.Proofs.YtbklgjmkdhinpaaGreatDoor.Bd
open Go.RowKit Go.Maps
def pickV (x : Int) (n : Nat) : Nat := ((x % 18446744073709551616).toNat) % n
theorem pickV_lt (x : Int) {n : Nat} (h : 0 < n) : pickV x n < n := Nat.mod_lt _ h
end Go.Proofs.YtbklgjmkdhinpaaGreatDoor.Bd
namespace Go.Proofs.YtbklgjmkdhinpaaGreatDoor.Fm
open Go.RowKit Go.Maps Go.Proofs.YtbklgjmkdhinpaaGreatDoor.Bd
section
variable {ns : List Nd} {vars : Nat}
theorem inF_swept (hr : Ranked ns) (fs : List Int) : ∀ (d : Nat) (h : Int) (x : Nat), MarkedOr ns (marksOf ns fs) h -> inF d (swept ns (marksOf ns fs)) h x = inF d ns h x
 | 0, _, _, _ => rfl
 | d + 1, h, x, hm => by
  obtain ⟨e1, e2⟩ := swept_node hm
  unfold inF
  rw [e1]
  by_cases ht : topOf ns h = 24
  ·rw [if_pos ht, if_pos ht]
  ·have hk := marksOf_closed hr fs (pl h) (node_at ht).2.1 (hm.resolve_left ht)
   rw [if_neg ht, if_neg ht, e2 ht, inF_swept hr fs d _ _ hk.1, inF_swept hr fs d _ _ hk.2]
theorem swept_kept (hg : Good vars ns) {fs : List Int} {h : Int} (hh : h ∈ fs) (hb : hasB ns h = true) : hasB (swept ns (marksOf ns fs)) h = true /\ ∀ x, In (swept ns (marksOf ns fs)) h x ↔ In ns h x := by
 have hm := marksOf_in hg.ranked fs h hh
 refine ⟨?_, fun x => by unfold In inB; rw [inF_swept hg.ranked fs 24 h x hm]⟩
 unfold hasB; rw [(swept_node hm).1]; exact hb
end
def alAt (al : List Int) (x : Int) : Int := al.getD (pickV x al.length) 0
abbrev Fam : Type := Nat -> Prop
def tAt (T : List Fam) (x : Int) : Fam := T.getD (pickV x T.length) (fun _ => False)
structure Sems (vars : Nat) (ns : List Nd) (al : List Int) (T : List Fam) : Prop where
 has : ∀ h ∈ al, hasB ns h = true
 len : al.length = T.length
 mem : ∀ i (h1 : i < al.length) (h2 : i < T.length), ∀ x, In ns al[i] x ↔ T[i] x
section
variable {vars : Nat} {ns : List Nd} {al : List Int} {T : List Fam}
theorem Sems.at (h : Sems vars ns al T) (hne : 0 < al.length) (x : Int) : hasB ns (alAt al x) = true /\ ∀ y, In ns (alAt al x) y ↔ tAt T x y := by
 have hl := pickV_lt x hne
 have e1 : alAt al x = al[pickV x al.length] := by unfold alAt; simp [List.getD_eq_getElem?_getD, List.getElem?_eq_getElem hl]
 have e2 : tAt T x = T[pickV x T.length]'(by rw [<- h.len]; exact hl) := by unfold tAt; simp [List.getD_eq_getElem?_getD, List.getElem?_eq_getElem (show pickV x T.length < T.length by rw [<- h.len]; exact hl)]
 refine ⟨by rw [e1]; exact h.has _ (List.getElem_mem hl), fun y => ?_⟩
 have h0 := h.mem (pickV x al.length) hl (by rw [<- h.len]; exact hl) y
 have e3 : T[pickV x al.length]'(by rw [<- h.len]; exact hl) = T[pickV x T.length]'(by rw [<- h.len]; exact hl) := getElem_congr_idx (by rw [h.len])
 rw [e1, h0, e2, e3]
theorem Sems.swept (hg : Good vars ns) (h : Sems vars ns al T) : Sems vars (Go.Proofs.YtbklgjmkdhinpaaGreatDoor.Bd.swept ns (marksOf ns al)) al T :=
 ⟨fun x hx => (swept_kept hg hx (h.has x hx)).1, h.len, fun i h1 h2 x => by rw [(swept_kept hg (List.getElem_mem h1) (h.has _ (List.getElem_mem h1))).2 x]; exact h.mem i h1 h2 x⟩
theorem Sems.more {ns' : List Nd} {x : Int} {g : Fam} (hr : Ranked ns) (h : Sems vars ns al T) (he : Ext ns ns') (hx : hasB ns' x = true) (hs : ∀ y, In ns' x y ↔ g y) : Sems vars ns' (al ++ [x]) (T ++ [g]) := by
 refine ⟨fun y hy => ?_, by simp [h.len], fun i h1 h2 y => ?_⟩
 ·rcases List.mem_append.1 hy with hy | hy
  ·exact he.has y (h.has y hy)
  ·rw [List.mem_singleton] at hy; subst hy; exact hx
 ·by_cases hi : i < al.length
  ·rw [List.getElem_append_left hi, List.getElem_append_left (by rw [<- h.len]; exact hi), in_ext hr he (h.has _ (List.getElem_mem hi))]
   exact h.mem i hi (by rw [<- h.len]; exact hi) y
  ·have e : i = al.length := by simp at h1; omega
   subst e
   have e2 : (T ++ [g])[al.length]'h2 = g := by simp [h.len]
   rw [e2]; simp [hs y]
theorem Sems.ext {ns' : List Nd} (hr : Ranked ns) (h : Sems vars ns al T) (he : Ext ns ns') : Sems vars ns' al T :=
 ⟨fun y hy => he.has y (h.has y hy), h.len, fun i h1 h2 y => by rw [in_ext hr he (h.has _ (List.getElem_mem h1))]; exact h.mem i h1 h2 y⟩
end
end Go.Proofs.YtbklgjmkdhinpaaGreatDoor.Fm

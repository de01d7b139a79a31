/- An operation: what is worked out by the least thing. -/
import Derived.Test.YtbklgjmkdhinpaaGreatDoorFmSmall
set_option maxHeartbeats 4000000
set_option maxRecDepth 100000
namespace Go.Proofs.YtbklgjmkdhinpaaGreatDoor.Fm
open Go.RowKit Go.Maps Go.Proofs.YtbklgjmkdhinpaaGreatDoor.Bd
def knX (k : K) (a b : Int) : Int := (knownZ k a b).getD (if k = .least then a else 0)
def KnowsC (F : FuncId) (k : K) : Prop := ∀ (a b : Int) (W : World), Calls Tryz.prog F #[.int .i64 a, .int .i64 b] W fun e w' => e = .returned (.tuple #[.int .i64 (knX k a b), .bool (knownZ k a b).isSome]) /\ W = w'
theorem knX_some {k : K} {a b x : Int} (h : knownZ k a b = some x) : knX k a b = x /\ (knownZ k a b).isSome = true := by unfold knX; rw [h]; exact ⟨rfl, rfl⟩
theorem knX_none {k : K} {a b : Int} (h : knownZ k a b = none) : knX k a b = (if k = .least then a else 0) /\ (knownZ k a b).isSome = false := by unfold knX; rw [h]; exact ⟨rfl, rfl⟩
theorem knows_or : KnowsC 71 .or := by
 intro a b W
 by_cases c0 : a = b
 ·obtain ⟨k1, k2⟩ := knX_some (show knownZ .or a b = some a by simp only [knownZ]; (repeat' split) <;> first | rfl | (exfalso; omega) | (congr 1; omega))
  rw [k1, k2]
  have q0 : (a == b) = true := by simpa using c0
  clear k1 k2
  subst c0
  go_enter Tryz.func71, Tryz.ntmps71
  go_wp2
  go_ret2
  exact ⟨rfl, rfl⟩
 have q0 : (a == b) = false := by simpa using c0
 by_cases c1 : b = 0
 ·obtain ⟨k1, k2⟩ := knX_some (show knownZ .or a b = some a by simp only [knownZ]; (repeat' split) <;> first | rfl | (exfalso; omega) | (congr 1; omega))
  rw [k1, k2]
  have q1 : (b == 0) = true := by simpa using c1
  clear k1 k2
  subst c1
  go_enter Tryz.func71, Tryz.ntmps71
  go_wp2
  go_ret2
  exact ⟨rfl, rfl⟩
 have q1 : (b == 0) = false := by simpa using c1
 by_cases c2 : a = 0
 ·obtain ⟨k1, k2⟩ := knX_some (show knownZ .or a b = some b by simp only [knownZ]; (repeat' split) <;> first | rfl | (exfalso; omega) | (congr 1; omega))
  rw [k1, k2]
  have q2 : (a == 0) = true := by simpa using c2
  clear k1 k2
  subst c2
  go_enter Tryz.func71, Tryz.ntmps71
  go_wp2
  go_ret2
  exact ⟨rfl, rfl⟩
 have q2 : (a == 0) = false := by simpa using c2
 obtain ⟨k1, k2⟩ := knX_none (show knownZ .or a b = none by simp only [knownZ]; (repeat' split) <;> first | rfl | (exfalso; omega) | (congr 1; omega))
 rw [k1, k2]
 clear k1 k2
 rw [if_neg (by decide)]
 go_enter Tryz.func71, Tryz.ntmps71
 go_wp2
 go_ret2
 exact ⟨rfl, rfl⟩
theorem knows_and : KnowsC 73 .and := by
 intro a b W
 by_cases c0 : a = b
 ·obtain ⟨k1, k2⟩ := knX_some (show knownZ .and a b = some a by simp only [knownZ]; (repeat' split) <;> first | rfl | (exfalso; omega) | (congr 1; omega))
  rw [k1, k2]
  have q0 : (a == b) = true := by simpa using c0
  clear k1 k2
  subst c0
  go_enter Tryz.func73, Tryz.ntmps73
  go_wp2
  go_ret2
  exact ⟨rfl, rfl⟩
 have q0 : (a == b) = false := by simpa using c0
 by_cases c1 : a = 0
 ·obtain ⟨k1, k2⟩ := knX_some (show knownZ .and a b = some 0 by simp only [knownZ]; (repeat' split) <;> first | rfl | (exfalso; omega) | (congr 1; omega))
  rw [k1, k2]
  have q1 : (a == 0) = true := by simpa using c1
  clear k1 k2
  subst c1
  go_enter Tryz.func73, Tryz.ntmps73
  go_wp2
  go_ret2
  exact ⟨rfl, rfl⟩
 have q1 : (a == 0) = false := by simpa using c1
 by_cases c2 : b = 0
 ·obtain ⟨k1, k2⟩ := knX_some (show knownZ .and a b = some 0 by simp only [knownZ]; (repeat' split) <;> first | rfl | (exfalso; omega) | (congr 1; omega))
  rw [k1, k2]
  have q2 : (b == 0) = true := by simpa using c2
  clear k1 k2
  subst c2
  go_enter Tryz.func73, Tryz.ntmps73
  go_wp2
  go_ret2
  exact ⟨rfl, rfl⟩
 have q2 : (b == 0) = false := by simpa using c2
 obtain ⟨k1, k2⟩ := knX_none (show knownZ .and a b = none by simp only [knownZ]; (repeat' split) <;> first | rfl | (exfalso; omega) | (congr 1; omega))
 rw [k1, k2]
 clear k1 k2
 rw [if_neg (by decide)]
 go_enter Tryz.func73, Tryz.ntmps73
 go_wp2
 go_ret2
 exact ⟨rfl, rfl⟩
theorem knows_less : KnowsC 75 .less := by
 intro a b W
 by_cases c0 : a = b
 ·obtain ⟨k1, k2⟩ := knX_some (show knownZ .less a b = some 0 by simp only [knownZ]; (repeat' split) <;> first | rfl | (exfalso; omega) | (congr 1; omega))
  rw [k1, k2]
  have q0 : (a == b) = true := by simpa using c0
  clear k1 k2
  subst c0
  go_enter Tryz.func75, Tryz.ntmps75
  go_wp2
  go_ret2
  exact ⟨rfl, rfl⟩
 have q0 : (a == b) = false := by simpa using c0
 by_cases c1 : a = 0
 ·obtain ⟨k1, k2⟩ := knX_some (show knownZ .less a b = some 0 by simp only [knownZ]; (repeat' split) <;> first | rfl | (exfalso; omega) | (congr 1; omega))
  rw [k1, k2]
  have q1 : (a == 0) = true := by simpa using c1
  clear k1 k2
  subst c1
  go_enter Tryz.func75, Tryz.ntmps75
  go_wp2
  go_ret2
  exact ⟨rfl, rfl⟩
 have q1 : (a == 0) = false := by simpa using c1
 by_cases c2 : b = 0
 ·obtain ⟨k1, k2⟩ := knX_some (show knownZ .less a b = some a by simp only [knownZ]; (repeat' split) <;> first | rfl | (exfalso; omega) | (congr 1; omega))
  rw [k1, k2]
  have q2 : (b == 0) = true := by simpa using c2
  clear k1 k2
  subst c2
  go_enter Tryz.func75, Tryz.ntmps75
  go_wp2
  go_ret2
  exact ⟨rfl, rfl⟩
 have q2 : (b == 0) = false := by simpa using c2
 obtain ⟨k1, k2⟩ := knX_none (show knownZ .less a b = none by simp only [knownZ]; (repeat' split) <;> first | rfl | (exfalso; omega) | (congr 1; omega))
 rw [k1, k2]
 clear k1 k2
 rw [if_neg (by decide)]
 go_enter Tryz.func75, Tryz.ntmps75
 go_wp2
 go_ret2
 exact ⟨rfl, rfl⟩
theorem knows_join : KnowsC 77 .join := by
 intro a b W
 by_cases c0 : a = 0
 ·obtain ⟨k1, k2⟩ := knX_some (show knownZ .join a b = some a by simp only [knownZ]; (repeat' split) <;> first | rfl | (exfalso; omega) | (congr 1; omega))
  rw [k1, k2]
  have q0 : (a == 0) = true := by simpa using c0
  clear k1 k2
  subst c0
  go_enter Tryz.func77, Tryz.ntmps77
  go_wp2
  go_ret2
  exact ⟨rfl, rfl⟩
 have q0 : (a == 0) = false := by simpa using c0
 by_cases c1 : b = 1
 ·obtain ⟨k1, k2⟩ := knX_some (show knownZ .join a b = some a by simp only [knownZ]; (repeat' split) <;> first | rfl | (exfalso; omega) | (congr 1; omega))
  rw [k1, k2]
  have q1 : (b == 1) = true := by simpa using c1
  clear k1 k2
  subst c1
  go_enter Tryz.func77, Tryz.ntmps77
  go_wp2
  go_ret2
  exact ⟨rfl, rfl⟩
 have q1 : (b == 1) = false := by simpa using c1
 by_cases c2 : b = 0
 ·obtain ⟨k1, k2⟩ := knX_some (show knownZ .join a b = some b by simp only [knownZ]; (repeat' split) <;> first | rfl | (exfalso; omega) | (congr 1; omega))
  rw [k1, k2]
  have q2 : (b == 0) = true := by simpa using c2
  clear k1 k2
  subst c2
  go_enter Tryz.func77, Tryz.ntmps77
  go_wp2
  go_ret2
  exact ⟨rfl, rfl⟩
 have q2 : (b == 0) = false := by simpa using c2
 by_cases c3 : a = 1
 ·obtain ⟨k1, k2⟩ := knX_some (show knownZ .join a b = some b by simp only [knownZ]; (repeat' split) <;> first | rfl | (exfalso; omega) | (congr 1; omega))
  rw [k1, k2]
  have q3 : (a == 1) = true := by simpa using c3
  clear k1 k2
  subst c3
  go_enter Tryz.func77, Tryz.ntmps77
  go_wp2
  go_ret2
  exact ⟨rfl, rfl⟩
 have q3 : (a == 1) = false := by simpa using c3
 obtain ⟨k1, k2⟩ := knX_none (show knownZ .join a b = none by simp only [knownZ]; (repeat' split) <;> first | rfl | (exfalso; omega) | (congr 1; omega))
 rw [k1, k2]
 clear k1 k2
 rw [if_neg (by decide)]
 go_enter Tryz.func77, Tryz.ntmps77
 go_wp2
 go_ret2
 exact ⟨rfl, rfl⟩
theorem knows_without : KnowsC 79 .without := by
 intro a b W
 by_cases c0 : a = b
 ·obtain ⟨k1, k2⟩ := knX_some (show knownZ .without a b = some 0 by simp only [knownZ]; (repeat' split) <;> first | rfl | (exfalso; omega) | (congr 1; omega))
  rw [k1, k2]
  have q0 : (a == b) = true := by simpa using c0
  clear k1 k2
  subst c0
  go_enter Tryz.func79, Tryz.ntmps79
  go_wp2
  go_ret2
  exact ⟨rfl, rfl⟩
 have q0 : (a == b) = false := by simpa using c0
 by_cases c1 : a = 0
 ·obtain ⟨k1, k2⟩ := knX_some (show knownZ .without a b = some 0 by simp only [knownZ]; (repeat' split) <;> first | rfl | (exfalso; omega) | (congr 1; omega))
  rw [k1, k2]
  have q1 : (a == 0) = true := by simpa using c1
  clear k1 k2
  subst c1
  go_enter Tryz.func79, Tryz.ntmps79
  go_wp2
  go_ret2
  exact ⟨rfl, rfl⟩
 have q1 : (a == 0) = false := by simpa using c1
 by_cases c2 : b = 1
 ·obtain ⟨k1, k2⟩ := knX_some (show knownZ .without a b = some 0 by simp only [knownZ]; (repeat' split) <;> first | rfl | (exfalso; omega) | (congr 1; omega))
  rw [k1, k2]
  have q2 : (b == 1) = true := by simpa using c2
  clear k1 k2
  subst c2
  go_enter Tryz.func79, Tryz.ntmps79
  go_wp2
  go_ret2
  exact ⟨rfl, rfl⟩
 have q2 : (b == 1) = false := by simpa using c2
 by_cases c3 : b = 0
 ·obtain ⟨k1, k2⟩ := knX_some (show knownZ .without a b = some a by simp only [knownZ]; (repeat' split) <;> first | rfl | (exfalso; omega) | (congr 1; omega))
  rw [k1, k2]
  have q3 : (b == 0) = true := by simpa using c3
  clear k1 k2
  subst c3
  go_enter Tryz.func79, Tryz.ntmps79
  go_wp2
  go_ret2
  exact ⟨rfl, rfl⟩
 have q3 : (b == 0) = false := by simpa using c3
 obtain ⟨k1, k2⟩ := knX_none (show knownZ .without a b = none by simp only [knownZ]; (repeat' split) <;> first | rfl | (exfalso; omega) | (congr 1; omega))
 rw [k1, k2]
 clear k1 k2
 rw [if_neg (by decide)]
 go_enter Tryz.func79, Tryz.ntmps79
 go_wp2
 go_ret2
 exact ⟨rfl, rfl⟩
theorem knows_least : KnowsC 81 .least := by
 intro a b W
 by_cases c0 : a = 0
 ·obtain ⟨k1, k2⟩ := knX_some (show knownZ .least a b = some a by simp only [knownZ]; (repeat' split) <;> first | rfl | (exfalso; omega) | (congr 1; omega))
  rw [k1, k2]
  have q0 : (a == 0) = true := by simpa using c0
  clear k1 k2
  subst c0
  go_enter Tryz.func81, Tryz.ntmps81
  go_wp2
  go_ret2
  exact ⟨rfl, rfl⟩
 have q0 : (a == 0) = false := by simpa using c0
 by_cases c1 : a = 1
 ·obtain ⟨k1, k2⟩ := knX_some (show knownZ .least a b = some a by simp only [knownZ]; (repeat' split) <;> first | rfl | (exfalso; omega) | (congr 1; omega))
  rw [k1, k2]
  have q1 : (a == 1) = true := by simpa using c1
  clear k1 k2
  subst c1
  go_enter Tryz.func81, Tryz.ntmps81
  go_wp2
  go_ret2
  exact ⟨rfl, rfl⟩
 have q1 : (a == 1) = false := by simpa using c1
 obtain ⟨k1, k2⟩ := knX_none (show knownZ .least a b = none by simp only [knownZ]; (repeat' split) <;> first | rfl | (exfalso; omega) | (congr 1; omega))
 rw [k1, k2]
 clear k1 k2
 rw [if_pos rfl]
 go_enter Tryz.func81, Tryz.ntmps81
 go_wp2
 go_ret2
 exact ⟨rfl, rfl⟩
end Go.Proofs.YtbklgjmkdhinpaaGreatDoor.Fm
namespace Go.Proofs.YtbklgjmkdhinpaaGreatDoor.Fm
open Go.RowKit Go.Maps Go.Proofs.YtbklgjmkdhinpaaGreatDoor.Bd
structure IsBase (c : Ctx) (F : FuncId) (k : K) (bw bk bd ba dm : Nat) (A : Value) : Prop where
 iw : (bw, .pointer (some ⟨c.wk, 0, none⟩)) ∈ c.boxes
 ik : (bk, .func (.func F) #[] #[]) ∈ c.boxes
 id : (bd, .map (some dm)) ∈ c.boxes
 im : (dm, k) ∈ c.memos
 ia : (ba, A) ∈ c.boxes
 enters : ∀ (args : Array Value) (w : World), (callFunc F args).run Tryz.prog w = .ok (.enter F args) w
 knows : KnowsC F k
section
variable {B : Nat} {c : Ctx} {O : Nat -> Prop} {vars : Nat} {ns : List Nd} {w : World} {k : K} {F : FuncId} {bw bk bd ba dm : Nat} {A : Value} {a b : Int}
theorem res_hit (hC : CtxAt B w c O vars ns) {h : Int} (hh : hasB ns h = true) (ht : minZ ns a b <= topOf ns h) (hm : ∀ x, In ns h x ↔ opP k (In ns a) (In ns b) x) : Res vars k ns a b ns h :=
 ⟨hC.good, Ext.refl _, hh, hm, ht, Nat.le_add_right _ _, hC.len⟩
theorem walk_known (hC : CtxAt B w c O vars ns) (hF : IsBase c F k bw bk bd ba dm A) (ha : hasB ns a = true) (hb : hasB ns b = true) (x : Int) (hk : knownZ k a b = some x) :
  Calls Tryz.prog 109 #[.int .i64 a, .int .i64 b, .pointer (some ⟨bw, 0, none⟩), .pointer (some ⟨bk, 0, none⟩), .pointer (some ⟨bd, 0, none⟩), .pointer (some ⟨ba, 0, none⟩)] w (OpOut B c O vars k ns a b w) := by
 have HR := Lib.hid (res_hit hC (known_has hC.good.ranked ha hb hk).1 (known_has hC.good.ranked ha hb hk).2 (fun y => known_mem hk y))
 have cw := (hC.box _ hF.iw).2.1
 have ck := (hC.box _ hF.ik).2.1
 have w1 := hC.w1
 have HC := Lib.hid hC
 have HK : Hid (∀ W, Calls Tryz.prog F #[.int .i64 a, .int .i64 b] W fun e w' => e = .returned (.tuple #[.int .i64 x, .bool true]) /\ W = w') := fun W => by
  have := hF.knows a b W
  rw [(knX_some hk).1, (knX_some hk).2] at this; exact this
 have hent := hF.enters
 clear hC hF hk ha hb
 go_enter Tryz.func109, Tryz.ntmps109
 go_wp2_with fail
 refine (HK.out _).mono ?_
 rintro e w2 ⟨rfl, rfl⟩
 go_wp2
 go_ret
 exact ⟨x, ns, O, rfl, HC.out, MM.refl _ _ _, HR.out⟩
theorem walk_found (hC : CtxAt B w c O vars ns) (hF : IsBase c F k bw bk bd ba dm A) (hk : knownZ k a b = none) {m : List ((Int × Int) × Int)} {D : DataW Unit} (hD : w.ownsMap Tryz.prog 154 (plainElem Tryz.prog 3) dm m.length D) (hRp : Rep PrOk prLit (fun x : Int => .lit (.int .i64 x)) D m) (hm : MemoOk k ns m) (x : Int) (hx : ((a, b), x) ∈ m) :
  Calls Tryz.prog 109 #[.int .i64 a, .int .i64 b, .pointer (some ⟨bw, 0, none⟩), .pointer (some ⟨bk, 0, none⟩), .pointer (some ⟨bd, 0, none⟩), .pointer (some ⟨ba, 0, none⟩)] w (OpOut B c O vars k ns a b w) := by
 have HR := Lib.hid (res_hit hC (hm.h _ hx) (hm.top _ hx) (hm.mem _ hx))
 have cw := (hC.box _ hF.iw).2.1
 have ck := (hC.box _ hF.ik).2.1
 have cd := (hC.box _ hF.id).2.1
 have w1 := hC.w1
 have HK : Hid (∀ W, Calls Tryz.prog F #[.int .i64 a, .int .i64 b] W fun e w' => e = .returned (.tuple #[.int .i64 (knX k a b), .bool false]) /\ W = w') := fun W => by
  have := hF.knows a b W
  rw [(knX_none hk).2] at this; exact this
 have hent := hF.enters
 have hb1 := below_new w (.cells #[.int .i64 a, .int .i64 b] 154)
 have dl := (hC.box _ hF.id).1
 have cd' := (hb1.cell (p := ⟨bd, 0, none⟩) dl).trans cd
 have hrun := plook_found (ownsMap_kept hD (Kept.of_below hb1 (fun _ => False)) (fun h => h)) hRp hx
 have HC := Lib.hid (hC.new hb1)
 have HB := Lib.hid hb1
 simp only at hrun
 clear hC hF hk hD hRp hm hx hb1
 generalize knX k a b = kx at *
 go_enter Tryz.func109, Tryz.ntmps109
 go_wp2_with fail
 refine (HK.out _).mono ?_
 rintro e w2 ⟨rfl, rfl⟩
 go_wp2
 go_ret
 exact ⟨x, ns, O, rfl, HC.out, MM.of_below HB.out, HR.out⟩
end
structure AtRes (vars : Nat) (k : K) (ns : List Nd) (a b : Int) (ns' : List Nd) (p q : Int) : Prop where
 ext : Ext ns ns'
 hp : hasB ns' p = true
 hq : hasB ns' q = true
 tp : minZ ns a b < topOf ns' p
 tq : minZ ns a b < topOf ns' q
 mem : ∀ x, (if x.testBit (minZ ns a b).toNat = true then In ns' q (x ^^^ 2 ^ (minZ ns a b).toNat) else In ns' p x) ↔ opP k (In ns a) (In ns b) x
 cnt : cntT vars ns' + (if minZ ns a b + 2 < (vars : Int) then 1 else 0) <= cntT vars ns + cost (rk vars ns a b) k
section
variable {B : Nat} {c : Ctx} {O O4 : Nat -> Prop} {vars : Nat} {ns ns4 : List Nd} {w w4 : World} {k : K} {a b p q : Int}
theorem minZ_vars (hg : Good vars ns) (hv : minZ ns a b < 24) : minZ ns a b < (vars : Int) := by
 have : minZ ns a b = topOf ns a \/ minZ ns a b = topOf ns b := by unfold minZ; omega
 rcases this with e | e <;> rw [e] at hv ⊢ <;> exact top_vars hg (by omega)
theorem node_step (hg : Good vars ns) (h4 : CtxAt B w4 c O4 vars ns4) (hA : AtRes vars k ns a b ns4 p q) (hv : minZ ns a b < 24) (hroom : cntT vars ns + cost (rk vars ns a b) k + 18 < c.room) :
  Calls Tryz.prog 85 #[.pointer (some ⟨c.wk, 0, none⟩), .int .i64 (minZ ns a b), .agg #[.int .i64 p, .int .i64 q]] w4 fun e w' => ∃ h ns5 O5, e = .returned (.int .i64 h) /\ CtxAt B w' c O5 vars ns5 /\ MM c O4 O5 w4 w' /\ Res vars k ns a b ns5 h := by
 have hv0 := (minZ_bd hg.ranked a b).1
 have hc4 := cnt_le h4.good
 have hA4 := hA.cnt
 have hl := h4.len
 have hrm := h4.rm
 have hmd := nodeZ_ok h4.good h4.v24 (v := minZ ns a b) (l := p) (h := q) (by omega) hv0 hv (minZ_vars hg hv) hA.hp hA.hq hA.tp hA.tq
 refine (node_any h4 (by omega) (minZ ns a b) p q hv0 hv hA.hp hA.hq hA.tp hA.tq).mono ?_
 rintro e w5 ⟨rfl, O5, hS5, hM5⟩
 have hlen : (nodeZ ns4 (minZ ns a b) p q).1.length <= 4000 := by have := hmd.len; omega
 refine ⟨_, _, O5, rfl, h4.moved hS5 hM5 hmd.good hmd.ext hlen, MM.of_moves hM5, hmd.good, hA.ext.trans hmd.ext, hmd.has, fun x => (hmd.mem x).trans (hA.mem x), hmd.top, ?_, hlen⟩
 have := hmd.cnt
 omega
end
end Go.Proofs.YtbklgjmkdhinpaaGreatDoor.Fm
namespace Go.Proofs.YtbklgjmkdhinpaaGreatDoor.Fm
open Go.RowKit Go.Maps Go.Proofs.YtbklgjmkdhinpaaGreatDoor.Bd
section
variable {B : Nat} {c : Ctx} {O : Nat -> Prop} {vars : Nat} {ns : List Nd} {w : World} {k : K} {F FA : FuncId} {bw bk bd ba dm : Nat} {capsA : Array Value} {a b : Int}
theorem walk_step (hC : CtxAt B w c O vars ns) (hF : IsBase c F k bw bk bd ba dm (.func (.func FA) #[] capsA)) (ha : hasB ns a = true) (hb : hasB ns b = true) (hk : knownZ k a b = none) {m : List ((Int × Int) × Int)} {D : DataW Unit} (hD : w.ownsMap Tryz.prog 154 (plainElem Tryz.prog 3) dm m.length D) (hRp : Rep PrOk prLit (fun x : Int => .lit (.int .i64 x)) D m) (hx : (a, b) ∉ m.map Prod.fst)
  (hroom : cntT vars ns + cost (rk vars ns a b) k + 18 < c.room)
  (hentA : ∀ (args : Array Value) (w : World), (callFunc FA args).run Tryz.prog w = .ok (.enter FA args) w)
  (hat : ∀ W, Below w.heap.size w W -> Calls Tryz.prog FA (#[.agg #[.int .i64 (loZ ns a (minZ ns a b)), .int .i64 (hiZ ns a (minZ ns a b))], .agg #[.int .i64 (loZ ns b (minZ ns a b)), .int .i64 (hiZ ns b (minZ ns a b))]] ++ capsA) W fun e w' => ∃ p q ns' O', e = .returned (.agg #[.int .i64 p, .int .i64 q]) /\ CtxAt B w' c O' vars ns' /\ MM c O O' W w' /\ AtRes vars k ns a b ns' p q) :
  Calls Tryz.prog 109 #[.int .i64 a, .int .i64 b, .pointer (some ⟨bw, 0, none⟩), .pointer (some ⟨bk, 0, none⟩), .pointer (some ⟨bd, 0, none⟩), .pointer (some ⟨ba, 0, none⟩)] w (OpOut B c O vars k ns a b w) := by
 have cw := (hC.box _ hF.iw).2.1
 have ck := (hC.box _ hF.ik).2.1
 have cd := (hC.box _ hF.id).2.1
 have ca := (hC.box _ hF.ia).2.1
 have w1 := hC.w1
 have hl := hC.len
 have hr := hC.good.ranked
 have hv := known_none (k := k) hr ha hb hk
 have hia := has_i64 ha (by omega)
 have hib := has_i64 hb (by omega)
 have HK : Hid (∀ W, Calls Tryz.prog F #[.int .i64 a, .int .i64 b] W fun e w' => e = .returned (.tuple #[.int .i64 (knX k a b), .bool false]) /\ W = w') := fun W => by
  have := hF.knows a b W
  rw [(knX_none hk).2] at this; exact this
 have hent := hF.enters
 have hb1 := below_new w (.cells #[.int .i64 a, .int .i64 b] 154)
 have hbx : ∀ {W : World} {j : Nat} {v : Value}, Below w.heap.size w W -> (j, v) ∈ c.boxes -> W.cell? ⟨j, 0, none⟩ = some v := fun hW hj => (hW.cell (p := ⟨_, 0, none⟩) (hC.box _ hj).1).trans (hC.box _ hj).2.1
 have hrun := plook_none (ownsMap_kept hD (Kept.of_below hb1 (fun _ => False)) (fun h => h)) hRp (a := a) (b := b) ⟨hia, hib⟩ hx
 have cd1 := hbx hb1 hF.id
 clear hD hRp hx
 have kx : ∃ x, knX k a b = x := ⟨_, rfl⟩
 obtain ⟨kx, ekx⟩ := kx
 rw [ekx] at HK
 clear ekx
 have e1 : ∀ W : World, Below w.heap.size w W -> W.cell? ⟨bw, 0, none⟩ = some (.pointer (some ⟨c.wk, 0, none⟩)) /\ W.cell? ⟨c.wk, 0, none⟩ = some (.pointer (some ⟨c.s, 0, none⟩)) /\ W.cell? ⟨c.s, 0, none⟩ = some (.pointer (some ⟨c.b, 0, none⟩)) /\ W.cell? ⟨ba, 0, none⟩ = some (.func (.func FA) #[] capsA) := fun W hW => ⟨hbx hW hF.iw, (hC.new hW).w0, (hC.new hW).space.c0, hbx hW hF.ia⟩
 have HTa : Hid (∀ W, Below w.heap.size w W -> Calls Tryz.prog 69 #[.pointer (some ⟨c.b, 0, none⟩), .int .i64 a] W fun e w' => e = .returned (.int .i64 (topOf ns a)) /\ W = w') := fun W hW => spTop (hC.new hW).space a hia (by omega)
 have HTb : Hid (∀ W, Below w.heap.size w W -> Calls Tryz.prog 69 #[.pointer (some ⟨c.b, 0, none⟩), .int .i64 b] W fun e w' => e = .returned (.int .i64 (topOf ns b)) /\ W = w') := fun W hW => spTop (hC.new hW).space b hib (by omega)
 have HPa : Hid (∀ W, Below w.heap.size w W -> Calls Tryz.prog 110 #[.pointer (some ⟨c.wk, 0, none⟩), .int .i64 a, .int .i64 (minZ ns a b)] W fun e w' => e = .returned (.agg #[.int .i64 (loZ ns a (minZ ns a b)), .int .i64 (hiZ ns a (minZ ns a b))]) /\ Below W.heap.size W w') := fun W hW => parts_any (hC.new hW).space (hC.new hW).w0 (by omega) a _ hia hv
 have HPb : Hid (∀ W, Below w.heap.size w W -> Calls Tryz.prog 110 #[.pointer (some ⟨c.wk, 0, none⟩), .int .i64 b, .int .i64 (minZ ns a b)] W fun e w' => e = .returned (.agg #[.int .i64 (loZ ns b (minZ ns a b)), .int .i64 (hiZ ns b (minZ ns a b))]) /\ Below W.heap.size W w') := fun W hW => parts_any (hC.new hW).space (hC.new hW).w0 (by omega) b _ hib hv
 have HAT := Lib.hid hat
 have HC := Lib.hid hC
 have HF := Lib.hid hF
 have HE1 := Lib.hid e1
 have hmin : min (topOf ns a) (topOf ns b) = minZ ns a b := rfl
 clear hC hF hat hbx e1
 have HB1 := Lib.hid hb1
 have E0 := HE1.out _ hb1.drew
 obtain ⟨p0, p1, -⟩ : (w.alloc (.cells #[.int .i64 a, .int .i64 b] 154)).cell? ⟨w.heap.size, 0, none⟩ = some (.int .i64 a) /\ (w.alloc (.cells #[.int .i64 a, .int .i64 b] 154)).cell? ⟨w.heap.size, 1, none⟩ = some (.int .i64 b) /\ True := by simp
 go_enter Tryz.func109, Tryz.ntmps109
 go_wp2_with fail
 refine (HK.out _).mono ?_
 rintro e w2 ⟨rfl, rfl⟩
 clear HK hent cw ck ca cd w1
 go_wp2_with fail
 generalize (w.alloc (.cells #[.int .i64 a, .int .i64 b] 154)) = W1 at *
 obtain ⟨t0, t1, t2, t3⟩ := E0
 go_region_held3 (fun w' => w'.cell? ⟨bw, 0, none⟩ = some (.pointer (some ⟨c.wk, 0, none⟩)) /\ w'.cell? ⟨c.wk, 0, none⟩ = some (.pointer (some ⟨c.s, 0, none⟩)) /\ w'.cell? ⟨c.s, 0, none⟩ = some (.pointer (some ⟨c.b, 0, none⟩))) (exact ⟨t0, t1, t2⟩)
  (first | (with_reducible refine (HTa.out _ HB1.out.drew).mono ?_; rintro e w2 ⟨rfl, rfl⟩) | (with_reducible refine (HTb.out _ HB1.out.drew).mono ?_; rintro e w2 ⟨rfl, rfl⟩))
 have HND : Hid (∀ (w4 : World) (O4 : Nat -> Prop) (ns4 : List Nd) (p q : Int), CtxAt B w4 c O4 vars ns4 -> AtRes vars k ns a b ns4 p q -> Calls Tryz.prog 85 #[.pointer (some ⟨c.wk, 0, none⟩), .int .i64 (minZ ns a b), .agg #[.int .i64 p, .int .i64 q]] w4 fun e w' => ∃ h ns5 O5, e = .returned (.int .i64 h) /\ CtxAt B w' c O5 vars ns5 /\ MM c O4 O5 w4 w' /\ Res vars k ns a b ns5 h) := fun w4 O4 ns4 p q h4 hA => node_step HC.out.good h4 hA hv hroom
 have bx1 := HC.out.box _ HF.out.iw
 have bx2 := HC.out.box _ HF.out.ia
 have bx3 := HC.out.box _ HF.out.id
 have nm : ∀ {j : Nat} {v : Value}, (j, v) ∈ c.boxes -> ¬ Ms c j := fun hj ⟨q, hq, e⟩ => (HC.out.box _ hj).2.2.2 q hq e
 have n1 := nm HF.out.iw
 have n2 := nm HF.out.ia
 have n3 := nm HF.out.id
 have np : ¬ Ms c w.heap.size := fun ⟨q, hq, e⟩ => by have := (HC.out.memo q hq).1.lt; omega
 have op : ¬ O w.heap.size := fun ho => by have := (HC.out.space.own _ ho).2; omega
 clear nm t0 t1 t2 t3 HTa HTb
 go_wp2_with fail
 have hd2 : Below w.heap.size w W1.drew.drew := HB1.out.drew.drew
 obtain ⟨t0, t1, t2, t3⟩ := HE1.out _ hd2
 go_region_held3 (fun w' => w'.cell? ⟨bw, 0, none⟩ = some (.pointer (some ⟨c.wk, 0, none⟩)) /\ w'.cell? ⟨ba, 0, none⟩ = some (.func (.func FA) #[] capsA))
  (first | exact ⟨t0, t3⟩ | exact ⟨(HE1.out _ hb3).1, (HE1.out _ hb3).2.2.2⟩ | exact ⟨(HE1.out _ hb4).1, (HE1.out _ hb4).2.2.2⟩ | exact ⟨(hC5.box _ HF.out.iw).2.1, (hC5.box _ HF.out.ia).2.1⟩ | exact ⟨(hC6.box _ HF.out.iw).2.1, (hC6.box _ HF.out.ia).2.1⟩)
  (first | (with_reducible refine (HPa.out _ hd2).mono ?_; rintro e w3 ⟨rfl, hb3'⟩; have hb3 := hd2.trans (hb3'.mono hd2.size)) | (with_reducible refine (HPb.out _ hb3).mono ?_; rintro e w4 ⟨rfl, hb4'⟩; have hb4 := hb3.trans (hb4'.mono hb3.size)) | (with_reducible refine (HAT.out _ hb4).mono ?_; rintro e w5 ⟨p, q, ns5, O5, rfl, hC5, hM5, hA5⟩) | (with_reducible refine (HND.out _ _ _ _ _ hC5 hA5).mono ?_; rintro e w6 ⟨h, ns6, O6, rfl, hC6, hM6, hR6⟩))
 have hMM : MM c O O6 w w6 := ((MM.of_below hb4).trans hM5).trans hM6
 have pl4 : w.heap.size < w4.heap.size := Nat.lt_of_lt_of_le (cells_at p0).lt (Nat.le_trans hb3'.size hb4'.size)
 have hp4 : ∀ i, w4.cell? ⟨w.heap.size, i, none⟩ = W1.cell? ⟨w.heap.size, i, none⟩ := fun i => by
  have l1 : w.heap.size < W1.drew.drew.heap.size := (cells_at p0).lt
  rw [hb4'.cell (p := ⟨w.heap.size, i, none⟩) (Nat.lt_of_lt_of_le l1 hb3'.size), hb3'.cell (p := ⟨w.heap.size, i, none⟩) l1]; rfl
 have o5 := hM5.beside pl4 op
 have pl5 := Nat.lt_of_lt_of_le pl4 hM5.size
 have z0 : w6.cell? ⟨w.heap.size, 0, none⟩ = some (.int .i64 a) := by rw [hM6.cell (a := ⟨w.heap.size, 0, none⟩) pl5 o5 np, hM5.cell (a := ⟨w.heap.size, 0, none⟩) pl4 op np, hp4]; exact p0
 have z1 : w6.cell? ⟨w.heap.size, 1, none⟩ = some (.int .i64 b) := by rw [hM6.cell (a := ⟨w.heap.size, 1, none⟩) pl5 o5 np, hM5.cell (a := ⟨w.heap.size, 1, none⟩) pl4 op np, hp4]; exact p1
 have zd := (hC6.box _ HF.out.id).2.1
 obtain ⟨⟨m6, D6, hD6, hR6', hm6⟩, -⟩ := hC6.memo _ HF.out.im
 have h6a := hR6.ext.has _ ha
 have h6b := hR6.ext.has _ hb
 have hl6 := hC6.len
 obtain ⟨w7, D7, hrun7, hD7, hR7, hK7⟩ := pstore hD6 hR6' (memo_len hR6' hm6 hl6) (a := a) (b := b) ⟨hia, hib⟩ (x := h) (has_i64 hR6.has (by omega))
 have hm7 : MemoOk k ns6 (memoPut m6 (a, b) h) := hm6.put h6a h6b hR6.has (by rw [minZ_ext hR6.ext ha hb]; exact hR6.top) (fun x => (hR6.mem x).trans (opP_congr k (fun y => (in_ext hr hR6.ext ha y).symm) (fun y => (in_ext hr hR6.ext hb y).symm) x))
 have hC7 := hC6.noted HF.out.im hK7 ⟨_, _, hD7, hR7, hm7⟩
 have hM7 : MM c O6 O6 w6 w7 := ⟨hK7.mono (fun j e => .inr ⟨_, HF.out.im, e.symm⟩), fun _ h => .inl h⟩
 have HOUT : Hid (OpOut B c O vars k ns a b w (.returned (.int .i64 h)) w7) := ⟨h, ns6, O6, rfl, hC7, hMM.trans hM7, hR6⟩
 clear hC5 hM5 hA5 hC6 hM6 hR6 hMM hD6 hR6' hm6 hD7 hR7 hK7 hm7 hC7 hM7 hp4 HC HF HND HAT HPa HPb HE1 hb3 hb3' hb4 hb4' hd2 t0 t1 t2 t3 hrun
 go_wp2
 go_ret
 exact HOUT.out
end
end Go.Proofs.YtbklgjmkdhinpaaGreatDoor.Fm

/- An operation: what is seen at once, what was worked out. -/
import Derived.Test.YtbklgjmkdhinpaaFmSmall
set_option maxHeartbeats 2000000
set_option maxRecDepth 100000
namespace Go.Proofs.Ytbklgjmkdhinpaa.Fm
open Go.RowKit Go.Maps Go.Proofs.Ytbklgjmkdhinpaa.Bd
def knX (k : K) (a b : Int) : Int := (knownZ k a b).getD (if k = .least then a else 0)
def KnowsC (F : FuncId) (k : K) : Prop := ∀ (a b : Int) (W : World), Calls Try.prog F #[.int .i64 a, .int .i64 b] W fun e w' => e = .returned (.tuple #[.int .i64 (knX k a b), .bool (knownZ k a b).isSome]) /\ W = w'
theorem knX_some {k : K} {a b x : Int} (h : knownZ k a b = some x) : knX k a b = x /\ (knownZ k a b).isSome = true := by unfold knX; rw [h]; exact ⟨rfl, rfl⟩
theorem knX_none {k : K} {a b : Int} (h : knownZ k a b = none) : knX k a b = (if k = .least then a else 0) /\ (knownZ k a b).isSome = false := by unfold knX; rw [h]; exact ⟨rfl, rfl⟩
theorem knows_or : KnowsC 67 .or := by
 intro a b W
 by_cases c0 : a = b
 ·obtain ⟨k1, k2⟩ := knX_some (show knownZ .or a b = some a by simp only [knownZ]; (repeat' split) <;> first | rfl | (exfalso; omega) | (congr 1; omega))
  rw [k1, k2]
  have q0 : (a == b) = true := by simpa using c0
  clear k1 k2
  subst c0
  go_enter Try.func67, Try.ntmps67
  go_wp2
  go_ret2
  exact ⟨rfl, rfl⟩
 have q0 : (a == b) = false := by simpa using c0
 by_cases c1 : b = 0
 ·obtain ⟨k1, k2⟩ := knX_some (show knownZ .or a b = some a by simp only [knownZ]; (repeat' split) <;> first | rfl | (exfalso; omega) | (congr 1; omega))
  rw [k1, k2]
  have q1 : (b == 0) = true := by simpa using c1
  clear k1 k2
  subst c1
  go_enter Try.func67, Try.ntmps67
  go_wp2
  go_ret2
  exact ⟨rfl, rfl⟩
 have q1 : (b == 0) = false := by simpa using c1
 by_cases c2 : a = 0
 ·obtain ⟨k1, k2⟩ := knX_some (show knownZ .or a b = some b by simp only [knownZ]; (repeat' split) <;> first | rfl | (exfalso; omega) | (congr 1; omega))
  rw [k1, k2]
  have q2 : (a == 0) = true := by simpa using c2
  clear k1 k2
  subst c2
  go_enter Try.func67, Try.ntmps67
  go_wp2
  go_ret2
  exact ⟨rfl, rfl⟩
 have q2 : (a == 0) = false := by simpa using c2
 obtain ⟨k1, k2⟩ := knX_none (show knownZ .or a b = none by simp only [knownZ]; (repeat' split) <;> first | rfl | (exfalso; omega) | (congr 1; omega))
 rw [k1, k2]
 clear k1 k2
 rw [if_neg (by decide)]
 go_enter Try.func67, Try.ntmps67
 go_wp2
 go_ret2
 exact ⟨rfl, rfl⟩
theorem knows_and : KnowsC 65 .and := by
 intro a b W
 by_cases c0 : a = b
 ·obtain ⟨k1, k2⟩ := knX_some (show knownZ .and a b = some a by simp only [knownZ]; (repeat' split) <;> first | rfl | (exfalso; omega) | (congr 1; omega))
  rw [k1, k2]
  have q0 : (a == b) = true := by simpa using c0
  clear k1 k2
  subst c0
  go_enter Try.func65, Try.ntmps65
  go_wp2
  go_ret2
  exact ⟨rfl, rfl⟩
 have q0 : (a == b) = false := by simpa using c0
 by_cases c1 : a = 0
 ·obtain ⟨k1, k2⟩ := knX_some (show knownZ .and a b = some 0 by simp only [knownZ]; (repeat' split) <;> first | rfl | (exfalso; omega) | (congr 1; omega))
  rw [k1, k2]
  have q1 : (a == 0) = true := by simpa using c1
  clear k1 k2
  subst c1
  go_enter Try.func65, Try.ntmps65
  go_wp2
  go_ret2
  exact ⟨rfl, rfl⟩
 have q1 : (a == 0) = false := by simpa using c1
 by_cases c2 : b = 0
 ·obtain ⟨k1, k2⟩ := knX_some (show knownZ .and a b = some 0 by simp only [knownZ]; (repeat' split) <;> first | rfl | (exfalso; omega) | (congr 1; omega))
  rw [k1, k2]
  have q2 : (b == 0) = true := by simpa using c2
  clear k1 k2
  subst c2
  go_enter Try.func65, Try.ntmps65
  go_wp2
  go_ret2
  exact ⟨rfl, rfl⟩
 have q2 : (b == 0) = false := by simpa using c2
 obtain ⟨k1, k2⟩ := knX_none (show knownZ .and a b = none by simp only [knownZ]; (repeat' split) <;> first | rfl | (exfalso; omega) | (congr 1; omega))
 rw [k1, k2]
 clear k1 k2
 rw [if_neg (by decide)]
 go_enter Try.func65, Try.ntmps65
 go_wp2
 go_ret2
 exact ⟨rfl, rfl⟩
theorem knows_less : KnowsC 69 .less := by
 intro a b W
 by_cases c0 : a = b
 ·obtain ⟨k1, k2⟩ := knX_some (show knownZ .less a b = some 0 by simp only [knownZ]; (repeat' split) <;> first | rfl | (exfalso; omega) | (congr 1; omega))
  rw [k1, k2]
  have q0 : (a == b) = true := by simpa using c0
  clear k1 k2
  subst c0
  go_enter Try.func69, Try.ntmps69
  go_wp2
  go_ret2
  exact ⟨rfl, rfl⟩
 have q0 : (a == b) = false := by simpa using c0
 by_cases c1 : a = 0
 ·obtain ⟨k1, k2⟩ := knX_some (show knownZ .less a b = some 0 by simp only [knownZ]; (repeat' split) <;> first | rfl | (exfalso; omega) | (congr 1; omega))
  rw [k1, k2]
  have q1 : (a == 0) = true := by simpa using c1
  clear k1 k2
  subst c1
  go_enter Try.func69, Try.ntmps69
  go_wp2
  go_ret2
  exact ⟨rfl, rfl⟩
 have q1 : (a == 0) = false := by simpa using c1
 by_cases c2 : b = 0
 ·obtain ⟨k1, k2⟩ := knX_some (show knownZ .less a b = some a by simp only [knownZ]; (repeat' split) <;> first | rfl | (exfalso; omega) | (congr 1; omega))
  rw [k1, k2]
  have q2 : (b == 0) = true := by simpa using c2
  clear k1 k2
  subst c2
  go_enter Try.func69, Try.ntmps69
  go_wp2
  go_ret2
  exact ⟨rfl, rfl⟩
 have q2 : (b == 0) = false := by simpa using c2
 obtain ⟨k1, k2⟩ := knX_none (show knownZ .less a b = none by simp only [knownZ]; (repeat' split) <;> first | rfl | (exfalso; omega) | (congr 1; omega))
 rw [k1, k2]
 clear k1 k2
 rw [if_neg (by decide)]
 go_enter Try.func69, Try.ntmps69
 go_wp2
 go_ret2
 exact ⟨rfl, rfl⟩
theorem knows_join : KnowsC 71 .join := by
 intro a b W
 by_cases c0 : a = 0
 ·obtain ⟨k1, k2⟩ := knX_some (show knownZ .join a b = some a by simp only [knownZ]; (repeat' split) <;> first | rfl | (exfalso; omega) | (congr 1; omega))
  rw [k1, k2]
  have q0 : (a == 0) = true := by simpa using c0
  clear k1 k2
  subst c0
  go_enter Try.func71, Try.ntmps71
  go_wp2
  go_ret2
  exact ⟨rfl, rfl⟩
 have q0 : (a == 0) = false := by simpa using c0
 by_cases c1 : b = 1
 ·obtain ⟨k1, k2⟩ := knX_some (show knownZ .join a b = some a by simp only [knownZ]; (repeat' split) <;> first | rfl | (exfalso; omega) | (congr 1; omega))
  rw [k1, k2]
  have q1 : (b == 1) = true := by simpa using c1
  clear k1 k2
  subst c1
  go_enter Try.func71, Try.ntmps71
  go_wp2
  go_ret2
  exact ⟨rfl, rfl⟩
 have q1 : (b == 1) = false := by simpa using c1
 by_cases c2 : b = 0
 ·obtain ⟨k1, k2⟩ := knX_some (show knownZ .join a b = some b by simp only [knownZ]; (repeat' split) <;> first | rfl | (exfalso; omega) | (congr 1; omega))
  rw [k1, k2]
  have q2 : (b == 0) = true := by simpa using c2
  clear k1 k2
  subst c2
  go_enter Try.func71, Try.ntmps71
  go_wp2
  go_ret2
  exact ⟨rfl, rfl⟩
 have q2 : (b == 0) = false := by simpa using c2
 by_cases c3 : a = 1
 ·obtain ⟨k1, k2⟩ := knX_some (show knownZ .join a b = some b by simp only [knownZ]; (repeat' split) <;> first | rfl | (exfalso; omega) | (congr 1; omega))
  rw [k1, k2]
  have q3 : (a == 1) = true := by simpa using c3
  clear k1 k2
  subst c3
  go_enter Try.func71, Try.ntmps71
  go_wp2
  go_ret2
  exact ⟨rfl, rfl⟩
 have q3 : (a == 1) = false := by simpa using c3
 obtain ⟨k1, k2⟩ := knX_none (show knownZ .join a b = none by simp only [knownZ]; (repeat' split) <;> first | rfl | (exfalso; omega) | (congr 1; omega))
 rw [k1, k2]
 clear k1 k2
 rw [if_neg (by decide)]
 go_enter Try.func71, Try.ntmps71
 go_wp2
 go_ret2
 exact ⟨rfl, rfl⟩
theorem knows_without : KnowsC 83 .without := by
 intro a b W
 by_cases c0 : a = b
 ·obtain ⟨k1, k2⟩ := knX_some (show knownZ .without a b = some 0 by simp only [knownZ]; (repeat' split) <;> first | rfl | (exfalso; omega) | (congr 1; omega))
  rw [k1, k2]
  have q0 : (a == b) = true := by simpa using c0
  clear k1 k2
  subst c0
  go_enter Try.func83, Try.ntmps83
  go_wp2
  go_ret2
  exact ⟨rfl, rfl⟩
 have q0 : (a == b) = false := by simpa using c0
 by_cases c1 : a = 0
 ·obtain ⟨k1, k2⟩ := knX_some (show knownZ .without a b = some 0 by simp only [knownZ]; (repeat' split) <;> first | rfl | (exfalso; omega) | (congr 1; omega))
  rw [k1, k2]
  have q1 : (a == 0) = true := by simpa using c1
  clear k1 k2
  subst c1
  go_enter Try.func83, Try.ntmps83
  go_wp2
  go_ret2
  exact ⟨rfl, rfl⟩
 have q1 : (a == 0) = false := by simpa using c1
 by_cases c2 : b = 1
 ·obtain ⟨k1, k2⟩ := knX_some (show knownZ .without a b = some 0 by simp only [knownZ]; (repeat' split) <;> first | rfl | (exfalso; omega) | (congr 1; omega))
  rw [k1, k2]
  have q2 : (b == 1) = true := by simpa using c2
  clear k1 k2
  subst c2
  go_enter Try.func83, Try.ntmps83
  go_wp2
  go_ret2
  exact ⟨rfl, rfl⟩
 have q2 : (b == 1) = false := by simpa using c2
 by_cases c3 : b = 0
 ·obtain ⟨k1, k2⟩ := knX_some (show knownZ .without a b = some a by simp only [knownZ]; (repeat' split) <;> first | rfl | (exfalso; omega) | (congr 1; omega))
  rw [k1, k2]
  have q3 : (b == 0) = true := by simpa using c3
  clear k1 k2
  subst c3
  go_enter Try.func83, Try.ntmps83
  go_wp2
  go_ret2
  exact ⟨rfl, rfl⟩
 have q3 : (b == 0) = false := by simpa using c3
 obtain ⟨k1, k2⟩ := knX_none (show knownZ .without a b = none by simp only [knownZ]; (repeat' split) <;> first | rfl | (exfalso; omega) | (congr 1; omega))
 rw [k1, k2]
 clear k1 k2
 rw [if_neg (by decide)]
 go_enter Try.func83, Try.ntmps83
 go_wp2
 go_ret2
 exact ⟨rfl, rfl⟩
theorem knows_least : KnowsC 76 .least := by
 intro a b W
 by_cases c0 : a = 0
 ·obtain ⟨k1, k2⟩ := knX_some (show knownZ .least a b = some a by simp only [knownZ]; (repeat' split) <;> first | rfl | (exfalso; omega) | (congr 1; omega))
  rw [k1, k2]
  have q0 : (a == 0) = true := by simpa using c0
  clear k1 k2
  subst c0
  go_enter Try.func76, Try.ntmps76
  go_wp2
  go_ret2
  exact ⟨rfl, rfl⟩
 have q0 : (a == 0) = false := by simpa using c0
 by_cases c1 : a = 1
 ·obtain ⟨k1, k2⟩ := knX_some (show knownZ .least a b = some a by simp only [knownZ]; (repeat' split) <;> first | rfl | (exfalso; omega) | (congr 1; omega))
  rw [k1, k2]
  have q1 : (a == 1) = true := by simpa using c1
  clear k1 k2
  subst c1
  go_enter Try.func76, Try.ntmps76
  go_wp2
  go_ret2
  exact ⟨rfl, rfl⟩
 have q1 : (a == 1) = false := by simpa using c1
 obtain ⟨k1, k2⟩ := knX_none (show knownZ .least a b = none by simp only [knownZ]; (repeat' split) <;> first | rfl | (exfalso; omega) | (congr 1; omega))
 rw [k1, k2]
 clear k1 k2
 rw [if_pos rfl]
 go_enter Try.func76, Try.ntmps76
 go_wp2
 go_ret2
 exact ⟨rfl, rfl⟩
theorem knows_hits : KnowsC 60 .hits := by
 intro a b W
 by_cases c0 : a = 0
 ·obtain ⟨k1, k2⟩ := knX_some (show knownZ .hits a b = some 1 by simp only [knownZ]; (repeat' split) <;> first | rfl | (exfalso; omega) | (congr 1; omega))
  rw [k1, k2]
  have q0 : (a == 0) = true := by simpa using c0
  clear k1 k2
  subst c0
  go_enter Try.func60, Try.ntmps60
  go_wp2
  go_ret2
  exact ⟨rfl, rfl⟩
 have q0 : (a == 0) = false := by simpa using c0
 by_cases c1 : a = 1
 ·obtain ⟨k1, k2⟩ := knX_some (show knownZ .hits a b = some 0 by simp only [knownZ]; (repeat' split) <;> first | rfl | (exfalso; omega) | (congr 1; omega))
  rw [k1, k2]
  have q1 : (a == 1) = true := by simpa using c1
  clear k1 k2
  subst c1
  go_enter Try.func60, Try.ntmps60
  go_wp2
  go_ret2
  exact ⟨rfl, rfl⟩
 have q1 : (a == 1) = false := by simpa using c1
 obtain ⟨k1, k2⟩ := knX_none (show knownZ .hits a b = none by simp only [knownZ]; (repeat' split) <;> first | rfl | (exfalso; omega) | (congr 1; omega))
 rw [k1, k2]
 clear k1 k2
 rw [if_neg (by decide)]
 go_enter Try.func60, Try.ntmps60
 go_wp2
 go_ret2
 exact ⟨rfl, rfl⟩
end Go.Proofs.Ytbklgjmkdhinpaa.Fm
namespace Go.Proofs.Ytbklgjmkdhinpaa.Fm
open Go.RowKit Go.Maps Go.Proofs.Ytbklgjmkdhinpaa.Bd
structure IsBase (c : Ctx) (F : FuncId) (k : K) (bw bk bd ba dm : Nat) (A : Value) : Prop where
 iw : (bw, .pointer (some ⟨c.wk, 0, none⟩)) ∈ c.boxes
 ik : (bk, .func (.func F) #[] #[]) ∈ c.boxes
 id : (bd, .map (some dm)) ∈ c.boxes
 im : (dm, k) ∈ c.memos
 ia : (ba, A) ∈ c.boxes
 enters : ∀ (args : Array Value) (w : World), (callFunc F args).run Try.prog w = .ok (.enter F args) w
 knows : KnowsC F k
section
variable {B : Nat} {c : Ctx} {O : Nat -> Prop} {vars : Nat} {ns : List Nd} {w : World} {k : K} {F : FuncId} {bw bk bd ba dm : Nat} {A : Value} {a b : Int}
theorem res_hit (hC : CtxAt B w c O vars ns) {h : Int} (hh : hasB ns h = true) (ht : minZ ns a b <= topOf ns h) (hm : ∀ x, In ns h x ↔ opP k (In ns a) (In ns b) x) : Res vars k ns a b ns h :=
 ⟨hC.good, Ext.refl _, hh, hm, ht, Nat.le_add_right _ _, hC.len⟩
theorem walk_known (hC : CtxAt B w c O vars ns) (hF : IsBase c F k bw bk bd ba dm A) (ha : hasB ns a = true) (hb : hasB ns b = true) (x : Int) (hk : knownZ k a b = some x) :
  Calls Try.prog 85 #[.int .i64 a, .int .i64 b, .pointer (some ⟨bw, 0, none⟩), .pointer (some ⟨bk, 0, none⟩), .pointer (some ⟨bd, 0, none⟩), .pointer (some ⟨ba, 0, none⟩)] w (OpOut B c O vars k ns a b w) := by
 have HR := Lib.hid (res_hit hC (known_has hC.good.ranked ha hb hk).1 (known_has hC.good.ranked ha hb hk).2 (fun y => known_mem hk y))
 have cw := (hC.box _ hF.iw).2.1
 have ck := (hC.box _ hF.ik).2.1
 have w1 := hC.w1
 have HC := Lib.hid hC
 have HK : Hid (∀ W, Calls Try.prog F #[.int .i64 a, .int .i64 b] W fun e w' => e = .returned (.tuple #[.int .i64 x, .bool true]) /\ W = w') := fun W => by
  have := hF.knows a b W
  rw [(knX_some hk).1, (knX_some hk).2] at this; exact this
 have hent := hF.enters
 clear hC hF hk ha hb
 go_enter Try.func85, Try.ntmps85
 go_wp2_with fail
 refine (HK.out _).mono ?_
 rintro e w2 ⟨rfl, rfl⟩
 go_wp2
 go_ret
 exact ⟨x, ns, O, rfl, HC.out, MM.refl _ _ _, HR.out⟩
theorem walk_found (hC : CtxAt B w c O vars ns) (hF : IsBase c F k bw bk bd ba dm A) (hk : knownZ k a b = none) {m : List ((Int × Int) × Int)} {D : DataW Unit} (hD : w.ownsMap Try.prog 115 (plainElem Try.prog 3) dm m.length D) (hRp : Rep PrOk prLit (fun x : Int => .lit (.int .i64 x)) D m) (hm : MemoOk k ns m) (x : Int) (hx : ((a, b), x) ∈ m) :
  Calls Try.prog 85 #[.int .i64 a, .int .i64 b, .pointer (some ⟨bw, 0, none⟩), .pointer (some ⟨bk, 0, none⟩), .pointer (some ⟨bd, 0, none⟩), .pointer (some ⟨ba, 0, none⟩)] w (OpOut B c O vars k ns a b w) := by
 have HR := Lib.hid (res_hit hC (hm.h _ hx) (hm.top _ hx) (hm.mem _ hx))
 have cw := (hC.box _ hF.iw).2.1
 have ck := (hC.box _ hF.ik).2.1
 have cd := (hC.box _ hF.id).2.1
 have w1 := hC.w1
 have HK : Hid (∀ W, Calls Try.prog F #[.int .i64 a, .int .i64 b] W fun e w' => e = .returned (.tuple #[.int .i64 (knX k a b), .bool false]) /\ W = w') := fun W => by
  have := hF.knows a b W
  rw [(knX_none hk).2] at this; exact this
 have hent := hF.enters
 have hb1 := below_new w (.cells #[.int .i64 a, .int .i64 b] 115)
 have dl := (hC.box _ hF.id).1
 have cd' := (hb1.cell (p := ⟨bd, 0, none⟩) dl).trans cd
 have hrun := plook_found (ownsMap_kept hD (Kept.of_below hb1 (fun _ => False)) (fun h => h)) hRp hx
 have HC := Lib.hid (hC.new hb1)
 have HB := Lib.hid hb1
 simp only at hrun
 clear hC hF hk hD hRp hm hx hb1
 generalize knX k a b = kx at *
 go_enter Try.func85, Try.ntmps85
 go_wp2_with fail
 refine (HK.out _).mono ?_
 rintro e w2 ⟨rfl, rfl⟩
 go_wp2
 go_ret
 exact ⟨x, ns, O, rfl, HC.out, MM.of_below HB.out, HR.out⟩
end
structure AtRes (vars : Nat) (k : K) (ns : List Nd) (a b : Int) (ns' : List Nd) (p q : Int) : Prop where
 ext : Ext ns ns'
 hp : hasB ns' p = true
 hq : hasB ns' q = true
 tp : minZ ns a b < topOf ns' p
 tq : minZ ns a b < topOf ns' q
 mem : ∀ x, (if x.testBit (minZ ns a b).toNat = true then In ns' q (x ^^^ 2 ^ (minZ ns a b).toNat) else In ns' p x) ↔ opP k (In ns a) (In ns b) x
 cnt : cntT vars ns' + (if minZ ns a b + 2 < (vars : Int) then 1 else 0) <= cntT vars ns + cost (rk vars ns a b) k
section
variable {B : Nat} {c : Ctx} {O O4 : Nat -> Prop} {vars : Nat} {ns ns4 : List Nd} {w w4 : World} {k : K} {a b p q : Int}
theorem minZ_vars (hg : Good vars ns) (hv : minZ ns a b < 24) : minZ ns a b < (vars : Int) := by
 have : minZ ns a b = topOf ns a \/ minZ ns a b = topOf ns b := by unfold minZ; omega
 rcases this with e | e <;> rw [e] at hv ⊢ <;> exact top_vars hg (by omega)
theorem node_step (hg : Good vars ns) (h4 : CtxAt B w4 c O4 vars ns4) (hA : AtRes vars k ns a b ns4 p q) (hv : minZ ns a b < 24) (hroom : cntT vars ns + cost (rk vars ns a b) k + 18 < c.room) :
  Calls Try.prog 86 #[.pointer (some ⟨c.wk, 0, none⟩), .int .i64 (minZ ns a b), .agg #[.int .i64 p, .int .i64 q]] w4 fun e w' => ∃ h ns5 O5, e = .returned (.int .i64 h) /\ CtxAt B w' c O5 vars ns5 /\ MM c O4 O5 w4 w' /\ Res vars k ns a b ns5 h := by
 have hv0 := (minZ_bd hg.ranked a b).1
 have hc4 := cnt_le h4.good
 have hA4 := hA.cnt
 have hl := h4.len
 have hrm := h4.rm
 have hmd := nodeZ_ok h4.good h4.v24 (v := minZ ns a b) (l := p) (h := q) (by omega) hv0 hv (minZ_vars hg hv) hA.hp hA.hq hA.tp hA.tq
 refine (node_any h4 (by omega) (minZ ns a b) p q hv0 hv hA.hp hA.hq hA.tp hA.tq).mono ?_
 rintro e w5 ⟨rfl, O5, hS5, hM5⟩
 have hlen : (nodeZ ns4 (minZ ns a b) p q).1.length <= 4000 := by have := hmd.len; omega
 refine ⟨_, _, O5, rfl, h4.moved hS5 hM5 hmd.good hmd.ext hlen, MM.of_moves hM5, hmd.good, hA.ext.trans hmd.ext, hmd.has, fun x => (hmd.mem x).trans (hA.mem x), hmd.top, ?_, hlen⟩
 have := hmd.cnt
 omega
end
end Go.Proofs.Ytbklgjmkdhinpaa.Fm

/- ParseLine: what it is asked of, and lines of no kind. -/
import Derived.Test.YtpmpnbbihmgdpaaGreatDoorCtMem
import Derived.Test.YtpmpnbbihmgdpaaGreatDoorSvSpan
import Derived.Test.YtpmpnbbihmgdpaaGreatDoorCnBase
import Derived.Lib.Hide
import Derived.Test.YtpmpnbbihmgdpaaGreatDoorCtName
set_option maxHeartbeats 4000000
set_option maxRecDepth 100000
namespace Go.Proofs.YtpmpnbbihmgdpaaGreatDoor
section
open Go.RowKit Sv
theorem pair_any (x : Ln) (v : Value) (w : World) :
  Calls Tryz.prog 123 #[.agg #[.int .i64 x.kind, .string x.name, .int .i64 x.a, .int .i64 x.b, .int .i64 x.c, .string x.other, v]] w fun e w' => e = .returned (.bool (decide x.pair)) /\ w' = w.alloc (.cells #[.int .i64 x.kind, .string x.name, .int .i64 x.a, .int .i64 x.b, .int .i64 x.c, .string x.other, v] 98) := by
 have hd : decide x.pair = (decide (x.kind = 2) || decide (x.kind = 3)) := by
  by_cases h2 : x.kind = 2 <;> by_cases h3 : x.kind = 3 <;> simp [Ln.pair, h2, h3]
 rw [hd]
 clear hd
 generalize x.kind = k
 by_cases h2 : k = 2
 ·subst h2
  go_enter Tryz.func123, Tryz.ntmps123
  go_wp2
  go_ret
  exact ⟨rfl, rfl⟩
 ·by_cases h3 : k = 3
  ·subst h3
   go_enter Tryz.func123, Tryz.ntmps123
   go_wp2
   go_ret
   exact ⟨rfl, rfl⟩
  ·have e2 : (k == 2) = false := by simpa using h2
   have e3 : (k == 3) = false := by simpa using h3
   have HD : Hid ((decide (k = 2) || decide (k = 3)) = false) := by show _ = _; simp [h2, h3]
   go_enter Tryz.func123, Tryz.ntmps123
   go_wp2
   go_ret
   exact ⟨by rw [HD.out]; rfl, rfl⟩
def wl : Nat -> List UInt8
 | 1 => [112, 97, 99, 107, 97, 103, 101]
 | 2 => [110, 101, 101, 100, 115]
 | 3 => [99, 108, 97, 115, 104, 101, 115]
 | 4 => [114, 111, 111, 116]
 | _ => []
structure WordsAt (w : World) : Prop where
 c0 : w.cell? ⟨3, 0, none⟩ = some (.string ⟨#[]⟩)
 c1 : w.cell? ⟨3, 1, none⟩ = some (.string ⟨#[112, 97, 99, 107, 97, 103, 101]⟩)
 c2 : w.cell? ⟨3, 2, none⟩ = some (.string ⟨#[110, 101, 101, 100, 115]⟩)
 c3 : w.cell? ⟨3, 3, none⟩ = some (.string ⟨#[99, 108, 97, 115, 104, 101, 115]⟩)
 c4 : w.cell? ⟨3, 4, none⟩ = some (.string ⟨#[114, 111, 111, 116]⟩)
theorem WordsAt.below {B : Nat} {w w' : World} (h : WordsAt w) (hb : Below B w w') (hB : 3 < B) : WordsAt w' :=
 ⟨(hb.cell (p := ⟨3, 0, none⟩) hB).trans h.c0, (hb.cell (p := ⟨3, 1, none⟩) hB).trans h.c1, (hb.cell (p := ⟨3, 2, none⟩) hB).trans h.c2, (hb.cell (p := ⟨3, 3, none⟩) hB).trans h.c3, (hb.cell (p := ⟨3, 4, none⟩) hB).trans h.c4⟩
abbrev wordsV : Value := .agg #[.string ⟨#[]⟩, .string ⟨#[112, 97, 99, 107, 97, 103, 101]⟩, .string ⟨#[110, 101, 101, 100, 115]⟩, .string ⟨#[99, 108, 97, 115, 104, 101, 115]⟩, .string ⟨#[114, 111, 111, 116]⟩]
theorem wix (W : World) : (Instr.index 321 wordsV (.int .i64 0)).run Tryz.prog W = .ok (.string ⟨#[]⟩) W /\ (Instr.index 321 wordsV (.int .i64 1)).run Tryz.prog W = .ok (.string ⟨#[112, 97, 99, 107, 97, 103, 101]⟩) W /\ (Instr.index 321 wordsV (.int .i64 2)).run Tryz.prog W = .ok (.string ⟨#[110, 101, 101, 100, 115]⟩) W /\ (Instr.index 321 wordsV (.int .i64 3)).run Tryz.prog W = .ok (.string ⟨#[99, 108, 97, 115, 104, 101, 115]⟩) W /\ (Instr.index 321 wordsV (.int .i64 4)).run Tryz.prog W = .ok (.string ⟨#[114, 111, 111, 116]⟩) W := by
 refine ⟨?_, ?_, ?_, ?_, ?_⟩ <;> kernel_rfl
theorem kindF_at {s : ByteArray} {k : Nat} (hk : 1 <= k) (hk4 : k <= 4) (h : s.toList = wl k) : kindF s = k := by
 match k, hk, hk4, h with
 | 1, _, _, h => unfold kindF; rw [h]; rfl
 | 2, _, _, h => unfold kindF; rw [h]; rfl
 | 3, _, _, h => unfold kindF; rw [h]; rfl
 | 4, _, _, h => unfold kindF; rw [h]; rfl
theorem kindF_none {s : ByteArray} (h : s.toList = [] \/ ∀ j, j < 5 -> s.toList ≠ wl j) : kindF s = 0 := by
 rcases h with h | h
 ·unfold kindF; rw [h]; rfl
 ·unfold kindF
  have h1 : s.toList ≠ [112, 97, 99, 107, 97, 103, 101] := h 1 (by omega)
  have h2 : s.toList ≠ [110, 101, 101, 100, 115] := h 2 (by omega)
  have h3 : s.toList ≠ [99, 108, 97, 115, 104, 101, 115] := h 3 (by omega)
  have h4 : s.toList ≠ [114, 111, 111, 116] := h 4 (by omega)
  rw [if_neg h1, if_neg h2, if_neg h3, if_neg h4]
theorem kind_any (s : ByteArray) (w : World) (hw : WordsAt w) :
  Calls Tryz.prog 157 #[.string s] w fun e w' => e = .returned (.int .i64 (kindF s : Nat)) /\ w' = w := by
 obtain ⟨c0, c1, c2, c3, c4⟩ := hw
 go_enter Tryz.func157, Tryz.ntmps157
 go_wp2_with fail
 clear c0 c1 c2 c3 c4
 go_loop [6] (fun i => ∃ k : Nat, k <= 5 /\ i = .int .i64 (k : Int) /\ ∀ j, j < k -> s.toList ≠ wl j) (fun i => 5 - (intOf i).toNat)
 case atStart => exact ⟨0, by omega, rfl, fun j h => by omega⟩
 case round =>
  obtain ⟨k, hk, rfl, hne⟩ := hrel
  obtain ⟨x0, x1, x2, x3, x4⟩ := wix w
  have HNE := Lib.hid hne
  clear hne
  by_cases h5 : k = 5
  ·subst h5
   have HK : Hid (kindF s = 0) := kindF_none (Or.inr HNE.out)
   go_wp2
   go_ret
   exact ⟨by rw [HK.out]; rfl, rfl⟩
  ·have h4 : k < 5 := by omega
   clear h5 hk
   by_cases hs : s.toList = wl k
   ·have HK : Hid (kindF s = k) := by
     show _ = _
     by_cases h0 : k = 0
     ·subst h0; exact kindF_none (Or.inl hs)
     ·exact kindF_at (by omega) (by omega) hs
    match k, h4 with
    | 0, _ =>
     have hb : (([] : List UInt8) == s.toList) = true := by rw [hs]; rfl
     have hb2 : s.toList.isEmpty = true := by rw [hs]; rfl
     clear hs
     go_wp2
     go_ret
     exact ⟨by rw [HK.out]; rfl, rfl⟩
    | 1, _ =>
     have hb : ([112, 97, 99, 107, 97, 103, 101] == s.toList) = true := by rw [hs]; rfl
     clear hs
     go_wp2
     go_ret
     exact ⟨by rw [HK.out]; rfl, rfl⟩
    | 2, _ =>
     have hb : ([110, 101, 101, 100, 115] == s.toList) = true := by rw [hs]; rfl
     clear hs
     go_wp2
     go_ret
     exact ⟨by rw [HK.out]; rfl, rfl⟩
    | 3, _ =>
     have hb : ([99, 108, 97, 115, 104, 101, 115] == s.toList) = true := by rw [hs]; rfl
     clear hs
     go_wp2
     go_ret
     exact ⟨by rw [HK.out]; rfl, rfl⟩
    | 4, _ =>
     have hb : ([114, 111, 111, 116] == s.toList) = true := by rw [hs]; rfl
     clear hs
     go_wp2
     go_ret
     exact ⟨by rw [HK.out]; rfl, rfl⟩
   ·have HN2 : Hid (∀ j, j < k + 1 -> s.toList ≠ wl j) := fun j hj => by
     rcases Nat.lt_succ_iff_lt_or_eq.1 hj with h | h
     ·exact HNE.out j h
     ·rw [h]; exact hs
    have hs' : (wl k == s.toList) = false := by rw [beq_eq_false_iff_ne]; exact fun e => hs e.symm
    clear hs
    match k, h4 with
    | 0, _ =>
     have hb : (([] : List UInt8) == s.toList) = false := hs'
     have hb2 : s.toList.isEmpty = false := by
      cases h : s.toList with
      | nil => rw [h] at hb; cases hb
      | cons a t => rfl
     clear hs'
     go_wp2
     go_round
     case rel => exact ⟨1, by omega, rfl, HN2.out⟩
     case measure => simp [intOf]
    | 1, _ =>
     have hb : ([112, 97, 99, 107, 97, 103, 101] == s.toList) = false := hs'
     clear hs'
     go_wp2
     go_round
     case rel => exact ⟨2, by omega, rfl, HN2.out⟩
     case measure => simp [intOf]
    | 2, _ =>
     have hb : ([110, 101, 101, 100, 115] == s.toList) = false := hs'
     clear hs'
     go_wp2
     go_round
     case rel => exact ⟨3, by omega, rfl, HN2.out⟩
     case measure => simp [intOf]
    | 3, _ =>
     have hb : ([99, 108, 97, 115, 104, 101, 115] == s.toList) = false := hs'
     clear hs'
     go_wp2
     go_round
     case rel => exact ⟨4, by omega, rfl, HN2.out⟩
     case measure => simp [intOf]
    | 4, _ =>
     have hb : ([114, 111, 111, 116] == s.toList) = false := hs'
     clear hs'
     go_wp2
     go_round
     case rel => exact ⟨5, by omega, rfl, HN2.out⟩
     case measure => simp [intOf]
end
section
open Go.RowKit
def ErrIs (w : World) (e : Value) (m pl : Int) : Prop :=
 (m = 0 /\ pl = -1 /\ e = .nilIface) \/ (m ≠ 0 /\ pl = -1 /\ e = .iface 34 (.int .i64 m)) \/
 (m ≠ 0 /\ ∃ b, b < w.heap.size /\ e = .iface 194 (.pointer (some ⟨b, 0, none⟩)) /\ w.cell? ⟨b, 0, none⟩ = some (.int .i64 m) /\ w.cell? ⟨b, 1, none⟩ = some (.int .i64 pl))
theorem ErrIs.below {w w' : World} {e : Value} {m pl : Int} (h : ErrIs w e m pl) (hb : Below w.heap.size w w') : ErrIs w' e m pl := by
 rcases h with h | h | ⟨h0, b, h1, h2, h3, h4⟩
 ·exact Or.inl h
 ·exact Or.inr (Or.inl h)
 ·exact Or.inr (Or.inr ⟨h0, b, Nat.lt_of_lt_of_le h1 hb.size, h2, (hb.cell (p := ⟨b, 0, none⟩) h1).trans h3, (hb.cell (p := ⟨b, 1, none⟩) h1).trans h4⟩)
end
section
open Go.RowKit Go.Extern.Stop Go.Stop Go.Extern
namespace Errs
theorem typeOfA (v : Value) (w : World) : (ReflectliteType.typeOf #[.iface 194 v]).run Tryz.prog w = .ok (.iface 303 (.agg #[.pointer (some ⟨12, 194, none⟩)])) w := by kernel_rfl
theorem assignableA (w : World) : (ReflectliteType.relation "AssignableTo" ReflectliteType.assignableTo #[.agg #[.pointer (some ⟨12, 194, none⟩)], .iface 303 (.agg #[.pointer (some ⟨12, 34, none⟩)])]).run Tryz.prog w = .ok (.bool false) w := by kernel_rfl
theorem methodUnwrap (h : Value) (w : World) : (Go.method 509 194 h "Unwrap").run Tryz.prog w = .ok (294, h) w := by kernel_rfl
theorem noAsA (v : Value) (w : World) : (Instr.typeAssert (.iface 194 v) 36 308 true).run Tryz.prog w = .ok (.tuple #[.nilIface, .bool false]) w := run_typeAssert_lacksB Tryz.underlying308 (by kernel_rfl) (by kernel_rfl) _ 36 w
theorem yesUnwrapA (v : Value) (w : World) : (Instr.typeAssert (.iface 194 v) 36 269 true).run Tryz.prog w = .ok (.tuple #[.iface 194 v, .bool true]) w := run_typeAssert_hasB Tryz.underlying269 (by kernel_rfl) _ 36 w
theorem as_at (n : Int) (ba : Nat) (t : Addr) (old : Value) (w : World) (hg : w.cell? ⟨1, 0, none⟩ = some (.iface 303 (.agg #[.pointer (some ⟨12, 36, none⟩)]))) (ht0 : w.cell? t = some old) (hf0 : w.frozen? t = false) (hba : w.cell? ⟨ba, 0, none⟩ = some (.int .i64 n)) :
  Calls Tryz.prog 78 #[.iface 194 (.pointer (some ⟨ba, 0, none⟩)), .iface 157 (.pointer (some t))] w fun ev w' => ev = .returned (.bool true) /\ w' = ((((w.alloc (.cells #[.pointer (some t)] 157)).alloc (.cells #[.pointer (some ⟨12, 157, none⟩), .pointer (some ⟨w.heap.size, 0, none⟩), .int .u64 150] 235)).alloc (.cells #[.pointer (some ⟨12, 157, none⟩), .pointer (some ⟨w.heap.size, 0, none⟩), .int .u64 150] 235)).alloc (.cells #[.int .i64 n] 34)).setCell t (.int .i64 n) := by
 have h6 := @run_callFunc_extern Tryz.prog 135 _ (fun args => ReflectliteValue.unpack (args.getD 0 (.tuple #[]))) Tryz.func135 (by kernel_rfl) (by kernel_rfl) (by kernel_rfl) (by kernel_rfl)
 have h7 := @run_callFunc_extern Tryz.prog 136 _ (ReflectliteValue.methodAny (ReflectliteValue.valueError "reflectlite.Value.Type" 0) (fun t _ _ _ => ReflectliteType.toType t)) Tryz.func136 (by kernel_rfl) (by kernel_rfl) (by kernel_rfl) (by kernel_rfl)
 have h8 := @run_callFunc_extern Tryz.prog 137 _ (ReflectliteValue.method (ReflectliteValue.valueError "reflectlite.Value.IsNil" 0) ReflectliteValue.isNil) Tryz.func137 (by kernel_rfl) (by kernel_rfl) (by kernel_rfl) (by kernel_rfl)
 have h27 := @run_callFunc_extern Tryz.prog 288 _ (ReflectliteType.abiMethod fun t => do pure (.int .u8 (<- Rtype.kind t))) Tryz.func288 (by kernel_rfl) (by kernel_rfl) (by kernel_rfl) (by kernel_rfl)
 have h37 := @run_callFunc_extern Tryz.prog 303 _ (ReflectliteType.method ReflectliteType.elem) Tryz.func303 (by kernel_rfl) (by kernel_rfl) (by kernel_rfl) (by kernel_rfl)
 have h38 := @run_callFunc_extern Tryz.prog 304 _ (ReflectliteType.relation "Implements" ReflectliteType.implements_) Tryz.func304 (by kernel_rfl) (by kernel_rfl) (by kernel_rfl) (by kernel_rfl)
 have h10 := @run_callFunc_extern Tryz.prog 192 _ ReflectliteType.typeOf Tryz.func192 (by kernel_rfl) (by kernel_rfl) (by kernel_rfl) (by kernel_rfl)
 have h35 := @run_callFunc_extern Tryz.prog 301 _ (ReflectliteType.relation "AssignableTo" ReflectliteType.assignableTo) Tryz.func301 (by kernel_rfl) (by kernel_rfl) (by kernel_rfl) (by kernel_rfl)
 have h11 := @run_callFunc_extern Tryz.prog 193 _ (ReflectliteValue.method (ReflectliteValue.valueError "reflectlite.Value.Elem" 0) ReflectliteValue.elem) Tryz.func193 (by kernel_rfl) (by kernel_rfl) (by kernel_rfl) (by kernel_rfl)
 have h12 := @run_callFunc_extern Tryz.prog 194 _ ReflectliteValue.set Tryz.func194 (by kernel_rfl) (by kernel_rfl) (by kernel_rfl) (by kernel_rfl)
 have tO := typeOfE
 have mA := methodAssignableTo
 have a25 := assignableE
 have v25 := valueOfE
 have f6 := valueOfP
 have f7 := typeP
 have mK := methodKind
 have mE := methodElem
 have mI := methodImplements
 have k27 := kindP
 have k25 := kindE
 have e27 := elemP
 have i25 := implementsE
 have n8 := isNilP ⟨w.heap.size, 0, none⟩ t ((w.alloc (.cells #[.pointer (some t)] 157)).alloc (.cells #[.pointer (some ⟨12, 157, none⟩), .pointer (some ⟨w.heap.size, 0, none⟩), .int .u64 150] 235)) (by simp)
 have hlt : 1 < w.heap.size := by
  rcases Nat.lt_or_ge 1 w.heap.size with h | h
  ·exact h
  ·simp [World.cell?, Array.getElem?_eq_none h] at hg
 have hg2 : ((w.alloc (.cells #[.pointer (some t)] 157)).alloc (.cells #[.pointer (some ⟨12, 157, none⟩), .pointer (some ⟨w.heap.size, 0, none⟩), .int .u64 150] 235)).cell? ⟨1, 0, none⟩ = some (.iface 303 (.agg #[.pointer (some ⟨12, 36, none⟩)])) := by
  rw [World.cell?_alloc_lt _ _ ⟨1, 0, none⟩ (by simp only [World.size_alloc]; omega), World.cell?_alloc_lt _ _ ⟨1, 0, none⟩ hlt]; exact hg
 have htl : t.block < w.heap.size := by
  rcases Nat.lt_or_ge t.block w.heap.size with h | h
  ·exact h
  ·simp [World.cell?, Array.getElem?_eq_none h] at ht0
 have el := elemVP ⟨w.heap.size, 0, none⟩ t (((w.alloc (.cells #[.pointer (some t)] 157)).alloc (.cells #[.pointer (some ⟨12, 157, none⟩), .pointer (some ⟨w.heap.size, 0, none⟩), .int .u64 150] 235)).alloc (.cells #[.pointer (some ⟨12, 157, none⟩), .pointer (some ⟨w.heap.size, 0, none⟩), .int .u64 150] 235)) (by rw [World.cell?_alloc_lt _ _ ⟨w.heap.size, 0, none⟩ (by simp; omega)]; simp)
 have st := setE t ⟨w.heap.size + 1 + 1 + 1, 0, none⟩ n old ((((w.alloc (.cells #[.pointer (some t)] 157)).alloc (.cells #[.pointer (some ⟨12, 157, none⟩), .pointer (some ⟨w.heap.size, 0, none⟩), .int .u64 150] 235)).alloc (.cells #[.pointer (some ⟨12, 157, none⟩), .pointer (some ⟨w.heap.size, 0, none⟩), .int .u64 150] 235)).alloc (.cells #[.int .i64 n] 34))
  (by rw [World.cell?_alloc_at _ _ _ _ (by simp)]; rfl)
  (by rw [World.cell?_alloc_lt _ _ t (by simp; omega), World.cell?_alloc_lt _ _ t (by simp; omega), World.cell?_alloc_lt _ _ t (by simp; omega), World.cell?_alloc_lt _ _ t htl]; exact ht0)
  (by rw [World.frozen?_alloc_old _ _ t (by simp; omega), World.frozen?_alloc_old _ _ t (by simp; omega), World.frozen?_alloc_old _ _ t (by simp; omega), World.frozen?_alloc_old _ _ t (Nat.ne_of_lt htl)]; exact hf0)
 have hbl : ba < w.heap.size := by
  rcases Nat.lt_or_ge ba w.heap.size with h | h
  ·exact h
  ·simp [World.cell?, Array.getElem?_eq_none h] at hba
 have hb3 : (((w.alloc (.cells #[.pointer (some t)] 157)).alloc (.cells #[.pointer (some ⟨12, 157, none⟩), .pointer (some ⟨w.heap.size, 0, none⟩), .int .u64 150] 235)).alloc (.cells #[.pointer (some ⟨12, 157, none⟩), .pointer (some ⟨w.heap.size, 0, none⟩), .int .u64 150] 235)).cell? ⟨ba, 0, none⟩ = some (.int .i64 n) := by
  rw [World.cell?_alloc_lt _ _ ⟨ba, 0, none⟩ (by simp only [World.size_alloc]; omega), World.cell?_alloc_lt _ _ ⟨ba, 0, none⟩ (by simp only [World.size_alloc]; omega), World.cell?_alloc_lt _ _ ⟨ba, 0, none⟩ hbl]; exact hba
 have tA := typeOfA
 have aA := assignableA
 have mU := methodUnwrap
 have n1 := noAsA
 have y1 := yesUnwrapA
 go_enter Tryz.func78, Tryz.ntmps78
 go_wp2
 refine wp_loop_rounds 2 ?_
 rw [rounds_succ]
 go_wp2
 rw [rounds_succ]
 go_wp2
 go_ret
 exact ⟨rfl, rfl⟩
end Errs
theorem tell_at (n : Int) (ba : Nat) (w : World) (hg : Glob w) (hba : w.cell? ⟨ba, 0, none⟩ = some (.int .i64 n)) :
  Calls Tryz.prog 28 #[.iface 194 (.pointer (some ⟨ba, 0, none⟩))] w fun e w' => e = .returned (.int .i64 n) /\ Below w.heap.size w w' := by
 have hbl : ba < w.heap.size := by
  rcases Nat.lt_or_ge ba w.heap.size with h | h
  ·exact h
  ·simp [World.cell?, Array.getElem?_eq_none h] at hba
 have H := Errs.as_at n ba ⟨w.heap.size, 0, none⟩ (.int .i64 0) (w.alloc (.cells #[.int .i64 0] 34)) (hg.below ((Below.refl _ _).alloc (Nat.le_refl _) _)) (cell1_0 _ _ _) (frozen1_0 _ _ _) ((World.cell?_alloc_lt _ _ ⟨ba, 0, none⟩ hbl).trans hba)
 clear hba
 go_enter Tryz.func28, Tryz.ntmps28
 go_wp2_with fail
 refine H.mono ?_
 rintro e w' ⟨rfl, hw⟩
 have hc : w'.cell? ⟨w.heap.size, 0, none⟩ = some (.int .i64 n) := by
  rw [hw]
  refine World.cell?_setCell_same' _ _ _ ?_
  rw [World.cell?_alloc_lt _ _ ⟨w.heap.size, 0, none⟩ (by simp; omega), World.cell?_alloc_lt _ _ ⟨w.heap.size, 0, none⟩ (by simp; omega), World.cell?_alloc_lt _ _ ⟨w.heap.size, 0, none⟩ (by simp; omega), World.cell?_alloc_lt _ _ ⟨w.heap.size, 0, none⟩ (by simp), cell1_0]
  rfl
 have hb : Below w.heap.size w w' := by
  rw [hw]
  exact ((((((Below.refl _ _).alloc (Nat.le_refl _) _).alloc (by simp) _).alloc (by simp; omega) _).alloc (by simp; omega) _).alloc (by simp; omega) _).setCell (Nat.le_refl _) _
 clear H hw
 go_wp2
 go_ret
 exact ⟨rfl, hb⟩
theorem noAt (n : Int) (w : World) : (Instr.typeAssert (.iface 34 (.int .i64 n)) 36 194 true).run Tryz.prog w = .ok (.tuple #[.pointer none, .bool false]) w := by kernel_rfl
theorem yesAt (b : Nat) (w : World) : (Instr.typeAssert (.iface 194 (.pointer (some ⟨b, 0, none⟩))) 36 194 true).run Tryz.prog w = .ok (.tuple #[.pointer (some ⟨b, 0, none⟩), .bool true]) w := by kernel_rfl
end
section
open Go.RowKit Go.Shelf Sv
structure Lw (w : World) : Prop where
 lb : Lb w
 wd : WordsAt w
theorem Lw.below {w w' : World} (h : Lw w) (hb : Below w.heap.size w w') : Lw w' := ⟨h.lb.below hb, h.wd.below hb (by have := h.lb.big; omega)⟩
theorem cut_any (s : ByteArray) (c : UInt8) (W : World) (hs : s.size <= 100000) (hw : Lb W) :
  Calls Tryz.prog 156 #[.string s, .string ⟨#[c]⟩] W fun e w' => ∃ b, e = .returned (.tuple #[.string (cutF s c).1, .string (cutF s c).2, .bool b]) /\ Below W.heap.size W w' := by
 obtain ⟨m, hm⟩ := hw.ml
 refine (Tryz.strings_Cut s ⟨#[c]⟩ m W (by omega) hm).mono fun e w' ⟨he, n, hn⟩ => ⟨_, he, ?_⟩
 subst hn
 exact ⟨rfl, rfl, rfl, Nat.le_refl _, fun _ _ => rfl⟩
theorem range_long (s : ByteArray) (w : World) (hs : 1000 < s.size) :
  Calls Tryz.prog 60 #[.string s] w fun e w' => e = .returned (.tuple #[.agg #[.slice none 0 0], .iface 34 (.int .i64 4)]) /\ Below w.heap.size w w' := by
 have hl : (1000 : Int) < (s.size : Int) := by omega
 generalize hn : (s.size : Int) = n at *
 clear hs
 go_enter Tryz.func60, Tryz.ntmps60
 go_wp2
 have k0 := ((Blk.new w 96 #[.slice none 0 0]).alloc (.cells #[.iface 34 (.int .i64 4)] 36))
 have k1 := (Blk.new (w.alloc (.cells #[.slice none 0 0] 96)) 36 #[.iface 34 (.int .i64 4)])
 rw [World.size_alloc] at k1
 have hB : Below w.heap.size w ((w.alloc (.cells #[.slice none 0 0] 96)).alloc (.cells #[.iface 34 (.int .i64 4)] 36)) := ((Below.refl _ w).alloc (Nat.le_refl _) _).alloc (by simp only [World.size_alloc]; omega) _
 generalize (w.alloc (.cells #[.slice none 0 0] 96)).alloc (.cells #[.iface 34 (.int .i64 4)] 36) = WF at *
 have r0 := k0.cell 0
 have r3 := k1.cell 0
 refine bodyPost_ret (v := .tuple #[.agg #[.slice none 0 0], .iface 34 (.int .i64 4)]) (by simp [results, Tryz.f60, go_sem, r0, r3]) rfl ?_
 exact ⟨rfl, hB⟩
def ErrP (w : World) (er : Value) (k : Int) : Option Nat -> Prop
 | none => er = .iface 34 (.int .i64 k)
 | some q => ∃ N, er = .iface 194 (.pointer (some ⟨N, 0, none⟩)) /\ Blk w N 195 #[.int .i64 k, .int .i64 (q : Int)]
theorem ErrP.below {w w' : World} {er : Value} {k : Int} {p : Option Nat} (h : ErrP w er k p) (hb : Below w.heap.size w w') : ErrP w' er k p := by
 cases p with
 | none => exact h
 | some q =>
  obtain ⟨N, h1, h2⟩ := h
  exact ⟨N, h1, h2.below hb h2.lt⟩
theorem ErrP.form {w : World} {er : Value} {k : Int} {p : Option Nat} (h : ErrP w er k p) : ∃ t v, er = .iface t v := by
 cases p with
 | none => exact ⟨_, _, h⟩
 | some q => obtain ⟨N, h1, _⟩ := h; exact ⟨_, _, h1⟩
def RngRes (r : Except (Int × Option Nat) (List Span)) (w' : World) (v er : Value) : Prop :=
 match r with
 | .ok l => er = .nilIface /\ SpAt w' v l /\ Rg l
 | .error (k, p) => v = .slice none 0 0 /\ ErrP w' er k p
theorem rng_any (s : ByteArray) (w : World) (hs : s.size <= 100000) (hw : Lb w) :
  Calls Tryz.prog 60 #[.string s] w fun e w' => ∃ a n c er, e = .returned (.tuple #[.agg #[.slice a n c], er]) /\ RngRes (rngF s) w' (.slice a n c) er /\ (∀ g, (Value.slice a n c).ownBlock = some g -> w.heap.size <= g) /\ Below w.heap.size w w' := by
 unfold rngF
 by_cases h : 1000 < s.size
 ·rw [if_pos h]
  exact (range_long s w h).mono fun e w' ⟨he, hb⟩ => ⟨none, 0, 0, _, he, ⟨rfl, rfl⟩, (fun g hg => by simp [Value.ownBlock] at hg), hb⟩
 ·rw [if_neg h]
  refine (range_any s w (by omega) hw).mono fun e w' h => ?_
  unfold RgAtErr at h
  cases hx : rangeF s with
  | ok l =>
   rw [hx] at h
   obtain ⟨v', he, h1, h2, h3⟩ := h
   obtain ⟨a', c', rfl⟩ := h1.form
   exact ⟨a', _, c', _, he, ⟨rfl, h1, rangeF_rg hx⟩, h2, h3⟩
  | error e2 =>
   obtain ⟨k, q⟩ := e2
   rw [hx] at h
   obtain ⟨N, he, h1, h2, h3⟩ := h
   exact ⟨none, 0, 0, _, he, ⟨rfl, N, rfl, h1⟩, (fun g hg => by simp [Value.ownBlock] at hg), h3⟩
abbrev z7 : Array Value := #[.int .i64 0, .string ⟨#[]⟩, .int .i64 0, .int .i64 0, .int .i64 0, .string ⟨#[]⟩, .slice none 0 0]
def LnRes (w : World) (r : Except (Int × Option Nat) Ln) (e : Ending) (w' : World) : Prop :=
 match r with
 | .ok x => ∃ v, e = .returned (.tuple #[.agg #[.int .i64 x.kind, .string x.name, .int .i64 x.a, .int .i64 x.b, .int .i64 x.c, .string x.other, v], .nilIface]) /\ SpAt w' v x.rng /\ Rg x.rng /\ (∀ g, v.ownBlock = some g -> w.heap.size <= g) /\ Below w.heap.size w w'
 | .error (k, p) => ∃ er, e = .returned (.tuple #[.agg z7, er]) /\ ErrP w' er k p /\ Below w.heap.size w w'
structure LS (w W : World) (b : Nat) (cs : Array Value) : Prop where
 z : Blk W w.heap.size 98 z7
 x : Blk W b 98 cs
 ne : w.heap.size < b
 B : Below w.heap.size w W
theorem LS.step {w W W' : World} {b : Nat} {cs : Array Value} (h : LS w W b cs) (hb : Below W.heap.size W W') : LS w W' b cs := ⟨h.z.below hb h.z.lt, h.x.below hb h.x.lt, h.ne, h.B.trans (hb.mono h.B.size)⟩
theorem LS.set {w W : World} {b : Nat} {cs : Array Value} (h : LS w W b cs) (i : Nat) (v : Value) : LS w (W.setCell ⟨b, i, none⟩ v) b (cs.setIfInBounds i v) :=
 ⟨h.z.other (by have := h.ne; omega), h.x.set, h.ne, h.B.setCell (p := ⟨b, i, none⟩) (Nat.le_of_lt h.ne) _⟩
theorem Blk.ne_type {W : World} {b b' : Nat} {t t' : TypeId} {cs cs' : Array Value} (h : Blk W b t cs) (h' : Blk W b' t' cs') (hne : t ≠ t') : b ≠ b' := by
 rintro rfl
 have := (show W.heap[b]? = _ from h).symm.trans h'
 simp only [Option.some.injEq, Obj.cells.injEq] at this
 exact hne this.2.1
theorem ErrP.setx {w W : World} {b : Nat} {cs : Array Value} {er : Value} {k : Int} {p : Option Nat} {i : Nat} {v : Value} (h : ErrP W er k p) (hL : LS w W b cs) : ErrP (W.setCell ⟨b, i, none⟩ v) er k p := by
 cases p with
 | none => exact h
 | some q =>
  obtain ⟨N, h1, h2⟩ := h
  exact ⟨N, h1, h2.other (h2.ne_type hL.x (by decide))⟩
theorem ErrP.one {W : World} {b : Nat} {cs : Array Value} {er : Value} {k : Int} {p : Option Nat} {i : Nat} {v : Value} (h : ErrP W er k p) (hL : Blk W b 98 cs) : ErrP (W.setCell ⟨b, i, none⟩ v) er k p := by
 cases p with
 | none => exact h
 | some q =>
  obtain ⟨N, h1, h2⟩ := h
  exact ⟨N, h1, h2.other (h2.ne_type hL (by decide))⟩
theorem ErrP.setz {w W : World} {b : Nat} {cs : Array Value} {er : Value} {k : Int} {p : Option Nat} {v0 v1 v2 v3 v4 v5 v6 : Value} (h : ErrP W er k p) (hL : LS w W b cs) : ErrP (((((((W.setCell ⟨w.heap.size, 0, none⟩ v0).setCell ⟨w.heap.size, 1, none⟩ v1).setCell ⟨w.heap.size, 2, none⟩ v2).setCell ⟨w.heap.size, 3, none⟩ v3).setCell ⟨w.heap.size, 4, none⟩ v4).setCell ⟨w.heap.size, 5, none⟩ v5).setCell ⟨w.heap.size, 6, none⟩ v6) er k p := by
 have z := hL.z
 exact ((((((h.one z).one z.set).one z.set.set).one z.set.set.set).one z.set.set.set.set).one z.set.set.set.set.set).one z.set.set.set.set.set.set
theorem SpAt.one {W : World} {b : Nat} {v x : Value} {l : List Span} {i : Nat} (h : SpAt W v l) (hn : v.ownBlock ≠ some b) : SpAt (W.setCell ⟨b, i, none⟩ x) v l :=
 ⟨h.form, fun j hj => by
  obtain ⟨g, cap, e, hg, c0, c1⟩ := h.cells j hj
  have hne : g ≠ b := fun e' => hn (by rw [e, e']; rfl)
  exact ⟨g, cap, e, by simp [World.setCell]; exact hg, (cell_set_other hne).trans c0, (cell_set_other hne).trans c1⟩⟩
theorem SpAt.all7 {W : World} {b : Nat} {v v0 v1 v2 v3 v4 v5 v6 : Value} {l : List Span} (h : SpAt W v l) (hn : v.ownBlock ≠ some b) : SpAt (((((((W.setCell ⟨b, 0, none⟩ v0).setCell ⟨b, 1, none⟩ v1).setCell ⟨b, 2, none⟩ v2).setCell ⟨b, 3, none⟩ v3).setCell ⟨b, 4, none⟩ v4).setCell ⟨b, 5, none⟩ v5).setCell ⟨b, 6, none⟩ v6) v l :=
 ((((((h.one hn).one hn).one hn).one hn).one hn).one hn).one hn
end
end Go.Proofs.YtpmpnbbihmgdpaaGreatDoor

/- ParseLine: what it is asked of, and lines of no kind. -/
import Derived.Test.YtmhophccdfmngaaGreatDoorSvMem
import Derived.Test.YtmhophccdfmngaaGreatDoorClWithin
import Derived.Test.YtmhophccdfmngaaGreatDoorCtName
set_option maxHeartbeats 4000000
set_option maxRecDepth 100000
namespace Go.Proofs.YtmhophccdfmngaaGreatDoor
section
open Go.RowKit Go.Extern.Stop Go.Stop Go.Extern
namespace Errs
theorem typeOfA (v : Value) (w : World) : (ReflectliteType.typeOf #[.iface 153 v]).run Tryz.prog w = .ok (.iface 262 (.agg #[.pointer (some ⟨12, 153, none⟩)])) w := by kernel_rfl
theorem assignableA (w : World) : (ReflectliteType.relation "AssignableTo" ReflectliteType.assignableTo #[.agg #[.pointer (some ⟨12, 153, none⟩)], .iface 262 (.agg #[.pointer (some ⟨12, 24, none⟩)])]).run Tryz.prog w = .ok (.bool false) w := by kernel_rfl
theorem methodUnwrap (h : Value) (w : World) : (Go.method 441 153 h "Unwrap").run Tryz.prog w = .ok (248, h) w := by kernel_rfl
theorem noAsA (v : Value) (w : World) : (Instr.typeAssert (.iface 153 v) 33 267 true).run Tryz.prog w = .ok (.tuple #[.nilIface, .bool false]) w := run_typeAssert_lacksB Tryz.underlying267 (by kernel_rfl) (by kernel_rfl) _ 33 w
theorem yesUnwrapA (v : Value) (w : World) : (Instr.typeAssert (.iface 153 v) 33 188 true).run Tryz.prog w = .ok (.tuple #[.iface 153 v, .bool true]) w := run_typeAssert_hasB Tryz.underlying188 (by kernel_rfl) _ 33 w
theorem as_at (n : Int) (ba : Nat) (t : Addr) (old : Value) (w : World) (hg : w.cell? ⟨3, 0, none⟩ = some (.iface 262 (.agg #[.pointer (some ⟨12, 33, none⟩)]))) (ht0 : w.cell? t = some old) (hf0 : w.frozen? t = false) (hba : w.cell? ⟨ba, 0, none⟩ = some (.int .i64 n)) :
  Calls Tryz.prog 130 #[.iface 153 (.pointer (some ⟨ba, 0, none⟩)), .iface 206 (.pointer (some t))] w fun ev w' => ev = .returned (.bool true) /\ w' = ((((w.alloc (.cells #[.pointer (some t)] 206)).alloc (.cells #[.pointer (some ⟨12, 206, none⟩), .pointer (some ⟨w.heap.size, 0, none⟩), .int .u64 150] 231)).alloc (.cells #[.pointer (some ⟨12, 206, none⟩), .pointer (some ⟨w.heap.size, 0, none⟩), .int .u64 150] 231)).alloc (.cells #[.int .i64 n] 24)).setCell t (.int .i64 n) := by
 have h6 := @run_callFunc_extern Tryz.prog 158 _ (fun args => ReflectliteValue.unpack (args.getD 0 (.tuple #[]))) Tryz.func158 (by kernel_rfl) (by kernel_rfl) (by kernel_rfl) (by kernel_rfl)
 have h7 := @run_callFunc_extern Tryz.prog 159 _ (ReflectliteValue.methodAny (ReflectliteValue.valueError "reflectlite.Value.Type" 0) (fun t _ _ _ => ReflectliteType.toType t)) Tryz.func159 (by kernel_rfl) (by kernel_rfl) (by kernel_rfl) (by kernel_rfl)
 have h8 := @run_callFunc_extern Tryz.prog 160 _ (ReflectliteValue.method (ReflectliteValue.valueError "reflectlite.Value.IsNil" 0) ReflectliteValue.isNil) Tryz.func160 (by kernel_rfl) (by kernel_rfl) (by kernel_rfl) (by kernel_rfl)
 have h27 := @run_callFunc_extern Tryz.prog 242 _ (ReflectliteType.abiMethod fun t => do pure (.int .u8 (<- Rtype.kind t))) Tryz.func242 (by kernel_rfl) (by kernel_rfl) (by kernel_rfl) (by kernel_rfl)
 have h37 := @run_callFunc_extern Tryz.prog 255 _ (ReflectliteType.method ReflectliteType.elem) Tryz.func255 (by kernel_rfl) (by kernel_rfl) (by kernel_rfl) (by kernel_rfl)
 have h38 := @run_callFunc_extern Tryz.prog 256 _ (ReflectliteType.relation "Implements" ReflectliteType.implements_) Tryz.func256 (by kernel_rfl) (by kernel_rfl) (by kernel_rfl) (by kernel_rfl)
 have h10 := @run_callFunc_extern Tryz.prog 191 _ ReflectliteType.typeOf Tryz.func191 (by kernel_rfl) (by kernel_rfl) (by kernel_rfl) (by kernel_rfl)
 have h35 := @run_callFunc_extern Tryz.prog 253 _ (ReflectliteType.relation "AssignableTo" ReflectliteType.assignableTo) Tryz.func253 (by kernel_rfl) (by kernel_rfl) (by kernel_rfl) (by kernel_rfl)
 have h11 := @run_callFunc_extern Tryz.prog 192 _ (ReflectliteValue.method (ReflectliteValue.valueError "reflectlite.Value.Elem" 0) ReflectliteValue.elem) Tryz.func192 (by kernel_rfl) (by kernel_rfl) (by kernel_rfl) (by kernel_rfl)
 have h12 := @run_callFunc_extern Tryz.prog 193 _ ReflectliteValue.set Tryz.func193 (by kernel_rfl) (by kernel_rfl) (by kernel_rfl) (by kernel_rfl)
 have tO := typeOfE
 have mA := methodAssignableTo
 have a25 := assignableE
 have v25 := valueOfE
 have f6 := valueOfP
 have f7 := typeP
 have mK := methodKind
 have mE := methodElem
 have mI := methodImplements
 have k27 := kindP
 have k25 := kindE
 have e27 := elemP
 have i25 := implementsE
 have n8 := isNilP ⟨w.heap.size, 0, none⟩ t ((w.alloc (.cells #[.pointer (some t)] 206)).alloc (.cells #[.pointer (some ⟨12, 206, none⟩), .pointer (some ⟨w.heap.size, 0, none⟩), .int .u64 150] 231)) (by simp)
 have hlt : 3 < w.heap.size := by
  rcases Nat.lt_or_ge 3 w.heap.size with h | h
  ·exact h
  ·simp [World.cell?, Array.getElem?_eq_none h] at hg
 have hg2 : ((w.alloc (.cells #[.pointer (some t)] 206)).alloc (.cells #[.pointer (some ⟨12, 206, none⟩), .pointer (some ⟨w.heap.size, 0, none⟩), .int .u64 150] 231)).cell? ⟨3, 0, none⟩ = some (.iface 262 (.agg #[.pointer (some ⟨12, 33, none⟩)])) := by
  rw [World.cell?_alloc_lt _ _ ⟨3, 0, none⟩ (by simp only [World.size_alloc]; omega), World.cell?_alloc_lt _ _ ⟨3, 0, none⟩ hlt]; exact hg
 have htl : t.block < w.heap.size := by
  rcases Nat.lt_or_ge t.block w.heap.size with h | h
  ·exact h
  ·simp [World.cell?, Array.getElem?_eq_none h] at ht0
 have el := elemVP ⟨w.heap.size, 0, none⟩ t (((w.alloc (.cells #[.pointer (some t)] 206)).alloc (.cells #[.pointer (some ⟨12, 206, none⟩), .pointer (some ⟨w.heap.size, 0, none⟩), .int .u64 150] 231)).alloc (.cells #[.pointer (some ⟨12, 206, none⟩), .pointer (some ⟨w.heap.size, 0, none⟩), .int .u64 150] 231)) (by rw [World.cell?_alloc_lt _ _ ⟨w.heap.size, 0, none⟩ (by simp; omega)]; simp)
 have st := setE t ⟨w.heap.size + 1 + 1 + 1, 0, none⟩ n old ((((w.alloc (.cells #[.pointer (some t)] 206)).alloc (.cells #[.pointer (some ⟨12, 206, none⟩), .pointer (some ⟨w.heap.size, 0, none⟩), .int .u64 150] 231)).alloc (.cells #[.pointer (some ⟨12, 206, none⟩), .pointer (some ⟨w.heap.size, 0, none⟩), .int .u64 150] 231)).alloc (.cells #[.int .i64 n] 24))
  (by rw [World.cell?_alloc_at _ _ _ _ (by simp)]; rfl)
  (by rw [World.cell?_alloc_lt _ _ t (by simp; omega), World.cell?_alloc_lt _ _ t (by simp; omega), World.cell?_alloc_lt _ _ t (by simp; omega), World.cell?_alloc_lt _ _ t htl]; exact ht0)
  (by rw [World.frozen?_alloc_old _ _ t (by simp; omega), World.frozen?_alloc_old _ _ t (by simp; omega), World.frozen?_alloc_old _ _ t (by simp; omega), World.frozen?_alloc_old _ _ t (Nat.ne_of_lt htl)]; exact hf0)
 have hbl : ba < w.heap.size := by
  rcases Nat.lt_or_ge ba w.heap.size with h | h
  ·exact h
  ·simp [World.cell?, Array.getElem?_eq_none h] at hba
 have hb3 : (((w.alloc (.cells #[.pointer (some t)] 206)).alloc (.cells #[.pointer (some ⟨12, 206, none⟩), .pointer (some ⟨w.heap.size, 0, none⟩), .int .u64 150] 231)).alloc (.cells #[.pointer (some ⟨12, 206, none⟩), .pointer (some ⟨w.heap.size, 0, none⟩), .int .u64 150] 231)).cell? ⟨ba, 0, none⟩ = some (.int .i64 n) := by
  rw [World.cell?_alloc_lt _ _ ⟨ba, 0, none⟩ (by simp only [World.size_alloc]; omega), World.cell?_alloc_lt _ _ ⟨ba, 0, none⟩ (by simp only [World.size_alloc]; omega), World.cell?_alloc_lt _ _ ⟨ba, 0, none⟩ hbl]; exact hba
 have tA := typeOfA
 have aA := assignableA
 have mU := methodUnwrap
 have n1 := noAsA
 have y1 := yesUnwrapA
 go_enter Tryz.func130, Tryz.ntmps130
 go_wp2
 refine wp_loop_rounds 2 ?_
 rw [rounds_succ]
 go_wp2
 rw [rounds_succ]
 go_wp2
 go_ret
 exact ⟨rfl, rfl⟩
end Errs
theorem tell_at (n : Int) (ba : Nat) (w : World) (hg : Glob w) (hba : w.cell? ⟨ba, 0, none⟩ = some (.int .i64 n)) :
  Calls Tryz.prog 95 #[.iface 153 (.pointer (some ⟨ba, 0, none⟩))] w fun e w' => e = .returned (.int .i64 n) /\ Below w.heap.size w w' := by
 have hbl : ba < w.heap.size := by
  rcases Nat.lt_or_ge ba w.heap.size with h | h
  ·exact h
  ·simp [World.cell?, Array.getElem?_eq_none h] at hba
 have H := Errs.as_at n ba ⟨w.heap.size, 0, none⟩ (.int .i64 0) (w.alloc (.cells #[.int .i64 0] 24)) (hg.below ((Below.refl _ _).alloc (Nat.le_refl _) _)) (cell1_0 _ _ _) (frozen1_0 _ _ _) ((World.cell?_alloc_lt _ _ ⟨ba, 0, none⟩ hbl).trans hba)
 clear hba
 go_enter Tryz.func95, Tryz.ntmps95
 go_wp2_with fail
 refine H.mono ?_
 rintro e w' ⟨rfl, hw⟩
 have hc : w'.cell? ⟨w.heap.size, 0, none⟩ = some (.int .i64 n) := by
  rw [hw]
  refine World.cell?_setCell_same' _ _ _ ?_
  rw [World.cell?_alloc_lt _ _ ⟨w.heap.size, 0, none⟩ (by simp; omega), World.cell?_alloc_lt _ _ ⟨w.heap.size, 0, none⟩ (by simp; omega), World.cell?_alloc_lt _ _ ⟨w.heap.size, 0, none⟩ (by simp; omega), World.cell?_alloc_lt _ _ ⟨w.heap.size, 0, none⟩ (by simp), cell1_0]
  rfl
 have hb : Below w.heap.size w w' := by
  rw [hw]
  exact ((((((Below.refl _ _).alloc (Nat.le_refl _) _).alloc (by simp) _).alloc (by simp; omega) _).alloc (by simp; omega) _).alloc (by simp; omega) _).setCell (Nat.le_refl _) _
 clear H hw
 go_wp2
 go_ret
 exact ⟨rfl, hb⟩
theorem place_nil (w : World) : Calls Tryz.prog 64 #[.nilIface] w fun e w' => e = .returned (.tuple #[.int .i64 0, .int .i64 (-1)]) /\ w = w' := by
 go_enter Tryz.func64, Tryz.ntmps64
 go_wp2_with fail
 refine (tell_nil _).mono ?_
 rintro e w' ⟨rfl, rfl⟩
 go_wp2_with fail
 refine wp_loop_rounds 1 ?_
 rw [rounds_succ]
 go_wp2
 go_ret2
 exact ⟨rfl, rfl⟩
theorem noAt (n : Int) (w : World) : (Instr.typeAssert (.iface 24 (.int .i64 n)) 33 153 true).run Tryz.prog w = .ok (.tuple #[.pointer none, .bool false]) w := by kernel_rfl
theorem yesAt (b : Nat) (w : World) : (Instr.typeAssert (.iface 153 (.pointer (some ⟨b, 0, none⟩))) 33 153 true).run Tryz.prog w = .ok (.tuple #[.pointer (some ⟨b, 0, none⟩), .bool true]) w := by kernel_rfl
theorem noUnwrap (n : Int) (w : World) : (Instr.typeAssert (.iface 24 (.int .i64 n)) 33 188 true).run Tryz.prog w = .ok (.tuple #[.nilIface, .bool false]) w := run_typeAssert_lacksB Tryz.underlying188 (by kernel_rfl) (by kernel_rfl) _ 33 w
theorem place_errno (n : Int) (w : World) (hg : Glob w) : Calls Tryz.prog 64 #[.iface 24 (.int .i64 n)] w fun e w' => e = .returned (.tuple #[.int .i64 n, .int .i64 (-1)]) /\ Below w.heap.size w w' := by
 have H := tell_errno n w hg
 have h1 := noAt n
 have h2 := noUnwrap n
 go_enter Tryz.func64, Tryz.ntmps64
 go_wp2_with fail
 refine H.mono ?_
 rintro e w' ⟨rfl, hb⟩
 clear H
 go_wp2_with fail
 refine wp_loop_rounds 1 ?_
 rw [rounds_succ]
 go_wp2
 go_ret2
 exact ⟨rfl, hb⟩
theorem place_at (n pl : Int) (b : Nat) (w : World) (hg : Glob w) (h0 : w.cell? ⟨b, 0, none⟩ = some (.int .i64 n)) (h1 : w.cell? ⟨b, 1, none⟩ = some (.int .i64 pl)) :
  Calls Tryz.prog 64 #[.iface 153 (.pointer (some ⟨b, 0, none⟩))] w fun e w' => e = .returned (.tuple #[.int .i64 n, .int .i64 pl]) /\ Below w.heap.size w w' := by
 have hbl : b < w.heap.size := by
  rcases Nat.lt_or_ge b w.heap.size with h | h
  ·exact h
  ·simp [World.cell?, Array.getElem?_eq_none h] at h0
 have H := tell_at n b w hg h0
 have h2 := yesAt b
 have H1 := Lib.hid h1
 clear h1 h0
 go_enter Tryz.func64, Tryz.ntmps64
 go_wp2_with fail
 refine H.mono ?_
 rintro e w' ⟨rfl, hb⟩
 have c1 : w'.cell? ⟨b, 1, none⟩ = some (.int .i64 pl) := (hb.cell (p := ⟨b, 1, none⟩) hbl).trans H1.out
 clear H
 go_wp2_with fail
 refine wp_loop_rounds 1 ?_
 rw [rounds_succ]
 go_wp2_with fail
 go_quiet (fail)
 have hbn : Below w.heap.size w (w'.drewN nq) := hb.trans ⟨rfl, rfl, rfl, Nat.le_refl _, fun _ _ => rfl⟩
 have HBN := Lib.hid hbn
 clear hbn
 go_wp2
 go_ret2
 exact ⟨rfl, HBN.out⟩
theorem place_err (e : Value) (m pl : Int) (w : World) (hg : Glob w) (h : ErrIs w e m pl) : Calls Tryz.prog 64 #[e] w fun e w' => e = .returned (.tuple #[.int .i64 m, .int .i64 pl]) /\ Below w.heap.size w w' := by
 rcases h with ⟨rfl, rfl, rfl⟩ | ⟨_, rfl, rfl⟩ | ⟨_, b, _, rfl, h0, h1⟩
 ·exact (place_nil w).mono fun e w' ⟨he, hw⟩ => ⟨he, hw ▸ Below.refl _ _⟩
 ·exact place_errno m w hg
 ·exact place_at m pl b w hg h0 h1
theorem refBare (k : Int) (w : World) : Calls Tryz.prog 58 #[.int .i64 k] w fun e w' => e = .returned (.agg #[.int .i64 k, .int .i64 (-1)]) /\ Below w.heap.size w w' := by
 go_enter Tryz.func58, Tryz.ntmps58
 go_wp2
 exact bodyPost_ret (v := .agg #[.int .i64 k, .int .i64 (-1)]) (by simp [results, Tryz.results58, go_sem]) rfl ⟨rfl, (Below.refl _ _).alloc (Nat.le_refl _) _⟩
theorem at_any (m k pl pk : Int) (v : Value) (w : World) (hg : Glob w) (hv : ErrIs w v m pl) :
  Calls Tryz.prog 14 #[v, .agg #[.int .i64 k, .int .i64 pk]] w fun e w' => e = .returned (.bool (m == k && pl == pk)) /\ Below w.heap.size w w' := by
 have HH : Hid (∀ W : World, Below w.heap.size w W -> Calls Tryz.prog 64 #[v] W fun e w' => e = .returned (.tuple #[.int .i64 m, .int .i64 pl]) /\ Below W.heap.size W w') := fun W hW => place_err v m pl W (hg.below hW) (hv.below hW)
 clear hv hg
 have hb1 : Below w.heap.size w (w.alloc (.cells #[.int .i64 k, .int .i64 pk] 26)) := (Below.refl _ _).alloc (Nat.le_refl _) _
 have fin : ∀ q r : Bool, (m == k) = q -> (pl == pk) = r -> Calls Tryz.prog 14 #[v, .agg #[.int .i64 k, .int .i64 pk]] w fun e w' => e = .returned (.bool (q && r)) /\ Below w.heap.size w w' := by
  intro q r hq hr
  cases q <;> cases r
  all_goals
   go_enter Tryz.func14, Tryz.ntmps14
   go_wp2_with fail
   refine (HH.out _ hb1).mono ?_
   rintro e w2 ⟨rfl, hb2⟩
   have c0 : w2.cell? ⟨w.heap.size, 0, none⟩ = some (.int .i64 k) := (hb2.cell (p := ⟨w.heap.size, 0, none⟩) (by simp)).trans (by simp)
   have c1 : w2.cell? ⟨w.heap.size, 1, none⟩ = some (.int .i64 pk) := (hb2.cell (p := ⟨w.heap.size, 1, none⟩) (by simp)).trans (by simp)
   have hb3 : Below w.heap.size w w2 := hb1.trans (hb2.mono (by simp))
   clear hb2
   go_wp2
   go_ret
   exact ⟨rfl, hb3⟩
 exact fin _ _ rfl rfl
end
section
open Go.RowKit Go.Shelf Sv
structure Lw (w : World) : Prop where
 lb : Lb w
 wd : WordsAt w
theorem Lw.below {w w' : World} (h : Lw w) (hb : Below w.heap.size w w') : Lw w' := ⟨h.lb.below hb, h.wd.below hb (by have := h.lb.big; omega)⟩
theorem range_long (s : ByteArray) (w : World) (hs : 1000 < s.size) :
  Calls Tryz.prog 13 #[.string s] w fun e w' => e = .returned (.tuple #[.agg #[.slice none 0 0], .iface 24 (.int .i64 4)]) /\ Below w.heap.size w w' := by
 have hl : (1000 : Int) < (s.size : Int) := by omega
 generalize hn : (s.size : Int) = n at *
 clear hs
 go_enter Tryz.func13, Tryz.ntmps13
 go_wp2
 have k0 := ((Blk.new w 31 #[.slice none 0 0]).alloc (.cells #[.iface 24 (.int .i64 4)] 33))
 have k1 := (Blk.new (w.alloc (.cells #[.slice none 0 0] 31)) 33 #[.iface 24 (.int .i64 4)])
 rw [World.size_alloc] at k1
 have hB : Below w.heap.size w ((w.alloc (.cells #[.slice none 0 0] 31)).alloc (.cells #[.iface 24 (.int .i64 4)] 33)) := ((Below.refl _ w).alloc (Nat.le_refl _) _).alloc (by simp only [World.size_alloc]; omega) _
 generalize (w.alloc (.cells #[.slice none 0 0] 31)).alloc (.cells #[.iface 24 (.int .i64 4)] 33) = WF at *
 have r0 := k0.cell 0
 have r3 := k1.cell 0
 refine bodyPost_ret (v := .tuple #[.agg #[.slice none 0 0], .iface 24 (.int .i64 4)]) (by simp [results, Tryz.f13, go_sem, r0, r3]) rfl ?_
 exact ⟨rfl, hB⟩
def ErrP (w : World) (er : Value) (k : Int) : Option Nat -> Prop
 | none => er = .iface 24 (.int .i64 k)
 | some q => ∃ N, er = .iface 153 (.pointer (some ⟨N, 0, none⟩)) /\ Blk w N 154 #[.int .i64 k, .int .i64 (q : Int)]
theorem ErrP.below {w w' : World} {er : Value} {k : Int} {p : Option Nat} (h : ErrP w er k p) (hb : Below w.heap.size w w') : ErrP w' er k p := by
 cases p with
 | none => exact h
 | some q =>
  obtain ⟨N, h1, h2⟩ := h
  exact ⟨N, h1, h2.below hb h2.lt⟩
theorem ErrP.form {w : World} {er : Value} {k : Int} {p : Option Nat} (h : ErrP w er k p) : ∃ t v, er = .iface t v := by
 cases p with
 | none => exact ⟨_, _, h⟩
 | some q => obtain ⟨N, h1, _⟩ := h; exact ⟨_, _, h1⟩
def RngRes (r : Except (Int × Option Nat) (List Span)) (w' : World) (v er : Value) : Prop :=
 match r with
 | .ok l => er = .nilIface /\ SpAt w' v l /\ Rg l
 | .error (k, p) => v = .slice none 0 0 /\ ErrP w' er k p
theorem rng_any (s : ByteArray) (w : World) (hs : s.size <= 100000) (hw : Lb w) :
  Calls Tryz.prog 13 #[.string s] w fun e w' => ∃ a n c er, e = .returned (.tuple #[.agg #[.slice a n c], er]) /\ RngRes (rngF s) w' (.slice a n c) er /\ (∀ g, (Value.slice a n c).ownBlock = some g -> w.heap.size <= g) /\ Below w.heap.size w w' := by
 unfold rngF
 by_cases h : 1000 < s.size
 ·rw [if_pos h]
  exact (range_long s w h).mono fun e w' ⟨he, hb⟩ => ⟨none, 0, 0, _, he, ⟨rfl, rfl⟩, (fun g hg => by simp [Value.ownBlock] at hg), hb⟩
 ·rw [if_neg h]
  refine (range_any s w (by omega) hw).mono fun e w' h => ?_
  unfold RgAtErr at h
  cases hx : rangeF s with
  | ok l =>
   rw [hx] at h
   obtain ⟨v', he, h1, h2, h3⟩ := h
   obtain ⟨a', c', rfl⟩ := h1.form
   exact ⟨a', _, c', _, he, ⟨rfl, h1, rangeF_rg hx⟩, h2, h3⟩
  | error e2 =>
   obtain ⟨k, q⟩ := e2
   rw [hx] at h
   obtain ⟨N, he, h1, h2, h3⟩ := h
   exact ⟨none, 0, 0, _, he, ⟨rfl, N, rfl, h1⟩, (fun g hg => by simp [Value.ownBlock] at hg), h3⟩
abbrev z7 : Array Value := #[.int .i64 0, .string ⟨#[]⟩, .int .i64 0, .int .i64 0, .int .i64 0, .string ⟨#[]⟩, .slice none 0 0]
structure LS (w W : World) (b : Nat) (cs : Array Value) : Prop where
 z : Blk W w.heap.size 76 z7
 x : Blk W b 76 cs
 ne : w.heap.size < b
 B : Below w.heap.size w W
theorem LS.step {w W W' : World} {b : Nat} {cs : Array Value} (h : LS w W b cs) (hb : Below W.heap.size W W') : LS w W' b cs := ⟨h.z.below hb h.z.lt, h.x.below hb h.x.lt, h.ne, h.B.trans (hb.mono h.B.size)⟩
theorem LS.set {w W : World} {b : Nat} {cs : Array Value} (h : LS w W b cs) (i : Nat) (v : Value) : LS w (W.setCell ⟨b, i, none⟩ v) b (cs.setIfInBounds i v) :=
 ⟨h.z.other (by have := h.ne; omega), h.x.set, h.ne, h.B.setCell (p := ⟨b, i, none⟩) (Nat.le_of_lt h.ne) _⟩
theorem Blk.ne_type {W : World} {b b' : Nat} {t t' : TypeId} {cs cs' : Array Value} (h : Blk W b t cs) (h' : Blk W b' t' cs') (hne : t ≠ t') : b ≠ b' := by
 rintro rfl
 have := (show W.heap[b]? = _ from h).symm.trans h'
 simp only [Option.some.injEq, Obj.cells.injEq] at this
 exact hne this.2.1
theorem ErrP.one {W : World} {b : Nat} {cs : Array Value} {er : Value} {k : Int} {p : Option Nat} {i : Nat} {v : Value} (h : ErrP W er k p) (hL : Blk W b 76 cs) : ErrP (W.setCell ⟨b, i, none⟩ v) er k p := by
 cases p with
 | none => exact h
 | some q =>
  obtain ⟨N, h1, h2⟩ := h
  exact ⟨N, h1, h2.other (h2.ne_type hL (by decide))⟩
theorem SpAt.one {W : World} {b : Nat} {v x : Value} {l : List Span} {i : Nat} (h : SpAt W v l) (hn : v.ownBlock ≠ some b) : SpAt (W.setCell ⟨b, i, none⟩ x) v l :=
 ⟨h.form, fun j hj => by
  obtain ⟨g, cap, e, hg, c0, c1⟩ := h.cells j hj
  have hne : g ≠ b := fun e' => hn (by rw [e, e']; rfl)
  exact ⟨g, cap, e, by simp [World.setCell]; exact hg, (cell_set_other hne).trans c0, (cell_set_other hne).trans c1⟩⟩
end
end Go.Proofs.YtmhophccdfmngaaGreatDoor

/- The store's functions: operations; one set; New; Free. -/
import Derived.Test.YtbklgjmkdhinpaaFmMake
import Derived.Test.YtbklgjmkdhinpaaBdMakes
import Derived.WalkSmall
import Derived.Test.YtbklgjmkdhinpaaArTaken
set_option maxHeartbeats 2000000
set_option maxRecDepth 100000
namespace Go.Proofs.Ytbklgjmkdhinpaa.Fm
open Go.RowKit Go.Maps Go.Proofs.Ytbklgjmkdhinpaa.Bd
structure FamAt (B : Nat) (w : World) (s b : Nat) (O : Nat -> Prop) (vars room : Nat) (ns : List Nd) : Prop where
 space : SpaceAt B w s b O vars (room : Int) ns
 good : Good vars ns
 v24 : vars <= 24
 rm : room <= 4000
 len : ns.length <= 4000
 hB : B <= w.heap.size
structure Mv (O O' : Nat -> Prop) (w w' : World) : Prop where
 kept : Kept O w w'
 own : ∀ k, O' k -> O k \/ w.heap.size <= k
section
variable {B s b : Nat} {O O' O'' : Nat -> Prop} {vars room : Nat} {ns : List Nd} {w w' w'' : World}
theorem FamAt.new (h : FamAt B w s b O vars room ns) (hb : Below w.heap.size w w') : FamAt B w' s b O vars room ns := ⟨h.space.new hb, h.good, h.v24, h.rm, h.len, Nat.le_trans h.hB hb.size⟩
theorem Mv.refl (O : Nat -> Prop) (w : World) : Mv O O w w := ⟨Kept.refl _ _, fun _ h => .inl h⟩
theorem Mv.of_below (hb : Below w.heap.size w w') : Mv O O w w' := ⟨Kept.of_below hb _, fun _ h => .inl h⟩
theorem Mv.of_moves (h : Moves O O' w w') : Mv O O' w w' := ⟨h.kept, h.own⟩
theorem Mv.trans (h : Mv O O' w w') (k : Mv O' O'' w' w'') : Mv O O'' w w'' :=
 ⟨h.kept.andThen k.kept (fun i hi hlt => (h.own i hi).elim id (fun h => by omega)), fun i hi => by
  rcases k.own i hi with h1 | h1
  ·exact h.own i h1
  ·exact .inr (Nat.le_trans h.kept.size h1)⟩
theorem Mv.size (h : Mv O O' w w') : w.heap.size <= w'.heap.size := h.kept.size
theorem Mv.cell (h : Mv O O' w w') {a : Addr} (hlt : a.block < w.heap.size) (hn : ¬ O a.block) : w'.cell? a = w.cell? a := h.kept.cell hlt hn
theorem Mv.beside (h : Mv O O' w w') {j : Nat} (hlt : j < w.heap.size) (hn : ¬ O j) : ¬ O' j := fun ho => by
 rcases h.own j ho with h1 | h1
 ·exact hn h1
 ·omega
theorem Mv.below {N : Nat} (h : Mv O O' w w') (hB : N <= w.heap.size) (ho : ∀ k, O k -> N <= k) : Below N w w' := h.kept.below hB ho
theorem present_any (hS : SpaceAt B w s b O vars (room : Int) ns) (hl : ns.length <= 90000) (bf : Nat) {cp : Nat} (fs : List Int) (hF : IntsAt w bf fs) (hfl : fs.length <= 1000) (hall : ∀ x ∈ fs, hasB ns x = true) :
  Calls Try.prog 47 #[.pointer (some ⟨s, 0, none⟩), .slice (some ⟨bf, 0, none⟩) fs.length cp] w fun e w' => e = .returned .nilIface /\ w = w' := by
 have c0 := hS.c0
 have HS := Lib.hid hS
 have HF := Lib.hid hF
 have HA := Lib.hid hall
 clear hS hF hall
 go_enter Try.func47, Try.ntmps47
 go_wp2_with fail
 go_loop [9] (fun i => ∃ k : Nat, k <= fs.length /\ i = .int .i64 (k : Int)) (fun i => fs.length - (intOf i).toNat)
 case atStart => exact ⟨0, Nat.zero_le _, rfl⟩
 case round =>
  obtain ⟨k, hk, rfl⟩ := hrel
  by_cases hlt : k < fs.length
  ·have ck := HF.out.cells k hlt
   have HH := Lib.hid (spHas HS.out fs[k] (HF.out.ok _ (List.getElem_mem hlt)) hl)
   rw [HA.out _ (List.getElem_mem hlt)] at HH
   generalize fs[k] = x at *
   go_wp2_with fail
   refine HH.out.mono ?_
   rintro e w' ⟨rfl, rfl⟩
   clear HH
   go_wp2
   go_round
   case rel => exact ⟨k + 1, by omega, by go_num⟩
   case measure => simp [intOf]; omega
  ·go_wp2
   go_ret
   exact ⟨rfl, rfl⟩
theorem answer_any {c : Ctx} {wk : Nat} (hC : CtxAt B w c O vars ns) (hwk : c.wk = wk) (h : Int) :
  Calls Try.prog 57 #[.pointer (some ⟨wk, 0, none⟩), .int .i64 h] w fun e w' => e = .returned (.tuple #[.int .i64 h, .nilIface]) /\ w = w' := by
 subst hwk
 have w1 := hC.w1
 clear hC
 go_enter Try.func57, Try.ntmps57
 go_wp2
 go_ret2
 exact ⟨rfl, rfl⟩
def MkC (F0 : FuncId) (k : K) : Prop := ∀ {B : Nat} {c : Ctx} {O : Nat -> Prop} {vars : Nat} {ns : List Nd} {w : World} {wk : Nat}, CtxAt B w c O vars ns -> c.wk = wk ->
 Calls Try.prog F0 #[.pointer (some ⟨wk, 0, none⟩)] w fun e w' => ∃ c' sw sk sd sa, e = .returned (.func (.func 85) #[] #[.pointer (some ⟨sw, 0, none⟩), .pointer (some ⟨sk, 0, none⟩), .pointer (some ⟨sd, 0, none⟩), .pointer (some ⟨sa, 0, none⟩)]) /\ CtxAt B w' c' O vars ns /\ Le w.heap.size c c' /\ Below w.heap.size w w' /\ SubC B c' vars k sw sk sd sa (-1)
theorem mkc_or : MkC 42 .or := fun hC hw => (mk_or hC hw).mono fun _ _ ⟨c', sw, sk, sd, sa, h1, h2, h3, h4, h5⟩ => ⟨c', sw, sk, sd, sa, h1, h2, h3, h4, sub_or h5 _⟩
theorem mkc_and : MkC 41 .and := fun hC hw => (mk_and hC hw).mono fun _ _ ⟨c', sw, sk, sd, sa, h1, h2, h3, h4, h5⟩ => ⟨c', sw, sk, sd, sa, h1, h2, h3, h4, sub_and h5 _⟩
theorem mkc_less : MkC 43 .less := fun hC hw => (mk_less hC hw).mono fun _ _ ⟨c', sw, sk, sd, sa, h1, h2, h3, h4, h5⟩ => ⟨c', sw, sk, sd, sa, h1, h2, h3, h4, sub_less h5 _⟩
theorem mkc_join : MkC 44 .join := fun hC hw => (mk_join hC hw).mono fun _ _ ⟨c', sw, sk, sd, sa, h1, h2, h3, h4, h5⟩ => ⟨c', sw, sk, sd, sa, h1, h2, h3, h4, sub_join h5 _⟩
theorem mkc_without : MkC 58 .without := fun hC hw => (mk_without hC hw).mono fun _ _ ⟨c', sw, sk, sd, sa, h1, h2, h3, h4, h5⟩ => ⟨c', sw, sk, sd, sa, h1, h2, h3, h4, sub_without h5 _⟩
theorem mkc_least : MkC 46 .least := fun hC hw => (mk_least hC hw).mono fun _ _ ⟨c', sw, sk, sd, sa, h1, h2, h3, h4, h5⟩ => ⟨c', sw, sk, sd, sa, h1, h2, h3, h4, sub_least h5 _⟩
def AskOut (B s b : Nat) (O : Nat -> Prop) (vars room : Nat) (k : K) (ns : List Nd) (a c : Int) (w : World) (e : Ending) (w' : World) : Prop :=
 ∃ h ns' O', e = .returned (.tuple #[.int .i64 h, .nilIface]) /\ FamAt B w' s b O' vars room ns' /\ Mv O O' w w' /\ Ext ns ns' /\ hasB ns' h = true /\ (∀ x, In ns' h x ↔ opP k (In ns a) (In ns c) x) /\ cntT vars ns' <= cntT vars ns + cost (rr vars (-1)) k
theorem two_ints (w : World) (a c : Int) (ia : I64 a) (ic : I64 c) : IntsAt (w.alloc (.cells #[.int .i64 a, .int .i64 c] 3)) w.heap.size [a, c] := by
 refine ⟨by simp, fun i hi => ?_, fun x hx => ?_⟩
 ·simp at hi
  rcases (by omega : i = 0 \/ i = 1) with rfl | rfl <;> simp
 ·simp at hx; rcases hx with rfl | rfl <;> assumption
theorem ctx_start (hS : FamAt B w s b O vars room ns) : CtxAt B (w.alloc (.cells #[.pointer (some ⟨s, 0, none⟩), .nilIface] 90)) ⟨s, b, w.heap.size, room, [], []⟩ O vars ns := by
 have hb := below_new w (.cells #[.pointer (some ⟨s, 0, none⟩), .nilIface] 90)
 refine ⟨hS.space.new hb, hS.good, hS.v24, hS.rm, hS.len, Nat.le_trans hS.hB hb.size, ?_, fun ho => by have := (hS.space.own _ ho).2; simp only at this; omega, hS.hB, fun p hp => (nomatch hp), List.nodup_nil, fun p hp => (nomatch hp)⟩
 show (w.heap.push _)[w.heap.size]? = _
 simp
theorem asked_any {k : K} {F0 : FuncId} (hmk : MkC F0 k) (hent : ∀ (args : Array Value) (w : World), (callFunc F0 args).run Try.prog w = .ok (.enter F0 args) w) (hS : FamAt B w s b O vars room ns) {a c : Int} (ha : hasB ns a = true) (hc : hasB ns c = true) (hun : unB k = true -> c = 0) (hroom : cntT vars ns + cost (rr vars (-1)) k + 18 < room) :
  Calls Try.prog 34 #[.pointer (some ⟨s, 0, none⟩), .func (.func F0) #[] #[], .int .i64 a, .int .i64 c] w (AskOut B s b O vars room k ns a c w) := by
 have hb1 := below_new w (.cells #[.int .i64 a, .int .i64 c] 3)
 have hS1 := hS.new hb1
 have hl := hS.len
 have ia := has_i64 ha (by omega)
 have ic := has_i64 hc (by omega)
 have hI : IntsAt (w.alloc (.cells #[.int .i64 a, .int .i64 c] 3)) w.heap.size [a, c] := two_ints w a c ia ic
 have hP := present_any (cp := 2) hS1.space (by omega) w.heap.size [a, c] hI (by simp) (fun x hx => by simp at hx; rcases hx with rfl | rfl <;> assumption)
 have hb2 := hb1.alloc hb1.size (.cells #[.pointer (some ⟨s, 0, none⟩), .nilIface] 90)
 have hC2 := ctx_start hS1
 have e1 : (w.alloc (.cells #[.int .i64 a, .int .i64 c] 3)).heap.size = w.heap.size + 1 := by simp
 rw [e1] at hC2
 have HC := Lib.hid hC2
 have HB := Lib.hid hb2
 have HP := Lib.hid hP
 have HS := Lib.hid hS
 have z2 : w.heap.size + 1 < ((w.alloc (.cells #[.int .i64 a, .int .i64 c] 3)).alloc (.cells #[.pointer (some ⟨s, 0, none⟩), .nilIface] 90)).heap.size := by simp
 clear hS hS1 hb1 hb2 hI hP hC2 e1
 go_enter Try.func34, Try.ntmps34
 go_wp2_with fail
 refine HP.out.mono ?_
 rintro e w1 ⟨rfl, rfl⟩
 clear HP
 go_wp2_with fail
 generalize ((w.alloc (.cells #[.int .i64 a, .int .i64 c] 3)).alloc (.cells #[.pointer (some ⟨s, 0, none⟩), .nilIface] 90)) = W2 at *
 refine (hmk HC.out rfl).mono ?_
 rintro e w3 ⟨c3, sw, sk, sd, sa, rfl, hC3, hL3, hb3, hS3⟩
 go_wp2_with fail
 have ua : Up (-1) ns a := ⟨ha, by have := (topOf_le HS.out.good.ranked a).1; omega⟩
 have uc : Up (-1) ns c := ⟨hc, by have := (topOf_le HS.out.good.ranked c).1; omega⟩
 refine (hS3 _ _ _ _ _ hC3 ua uc hun (by rw [hL3.room]; exact hroom)).mono ?_
 rintro e w4 ⟨h, ns4, O4, rfl, hC4, hM4, hx4, hu4, hm4, hc4⟩
 go_wp2_with fail
 refine (answer_any hC4 hL3.wk h).mono ?_
 rintro e w5 ⟨rfl, rfl⟩
 have hMv : Mv O O4 w w4 := by
  have b3 := HB.out.trans (hb3.mono HB.out.size)
  refine ⟨(Kept.of_below b3 O).andThen hM4.kept (fun i hi hlt => ?_), fun i hi => ?_⟩
  ·rcases hi with hi | ⟨q, hq, rfl⟩
   ·exact hi
   ·rcases hL3.newm q hq with h1 | h1
    ·cases h1
    ·omega
  ·rcases hM4.own i hi with h1 | h1
   ·exact .inl h1
   ·exact .inr (Nat.le_trans b3.size h1)
 have hF4 : FamAt B w4 s b O4 vars room ns4 := by
  have := hC4.space
  rw [hL3.s, hL3.b, hL3.room] at this
  exact ⟨this, hC4.good, hC4.v24, HS.out.rm, hC4.len, hC4.hB⟩
 have HOUT : Hid (AskOut B s b O vars room k ns a c w (.returned (.tuple #[.int .i64 h, .nilIface])) w4) := ⟨h, ns4, O4, rfl, hF4, hMv, hx4, hu4.1, hm4, hc4⟩
 clear hC3 hL3 hb3 hS3 hC4 hM4 hx4 hu4 hm4 hc4 hMv hF4
 go_wp2
 go_ret2
 exact HOUT.out
end
end Go.Proofs.Ytbklgjmkdhinpaa.Fm
namespace Go.Proofs.Ytbklgjmkdhinpaa.Bd
open Go.RowKit Go.Maps
def bitsF (n : Nat) : Nat -> Bool := fun i => n.testBit i
theorem shr_bit (vals v : Nat) (hv : vals < 18446744073709551616) : (bits BinOp.and IntKind.u64 ((vals : Int) / 2 ^ v) 1 == 1) = bitsF vals v := by
 have e : (vals : Int) / 2 ^ v = ((vals / 2 ^ v : Nat) : Int) := by simp
 have hd : vals / 2 ^ v <= vals := Nat.div_le_self _ _
 generalize hm : vals / 2 ^ v = m at *
 rw [e, and_one_u64 _ (by omega) (by omega)]
 have hb : bitsF vals v = decide (m % 2 = 1) := by unfold bitsF; rw [Nat.testBit_eq_decide_div_mod_eq, hm]
 rw [hb, Bool.eq_iff_iff]
 simp
 omega
end Go.Proofs.Ytbklgjmkdhinpaa.Bd
namespace Go.Proofs.Ytbklgjmkdhinpaa.Fm
open Go.RowKit Go.Maps Go.Proofs.Ytbklgjmkdhinpaa.Bd
section
variable {B s b : Nat} {O O' O'' : Nat -> Prop} {vars room : Nat} {ns : List Nd} {w w' w'' : World}
theorem or_any (hS : FamAt B w s b O vars room ns) {a c : Int} (ha : hasB ns a = true) (hc : hasB ns c = true) (hroom : cntT vars ns + cost (rr vars (-1)) .or + 18 < room) :
  Calls Try.prog 21 #[.pointer (some ⟨s, 0, none⟩), .int .i64 a, .int .i64 c] w (AskOut B s b O vars room .or ns a c w) := by
 have HA := Lib.hid (asked_any mkc_or (fun _ _ => by kernel_rfl) hS ha hc (fun h => by cases h) hroom)
 clear hS ha hc
 go_enter Try.func21, Try.ntmps21
 go_wp2_with fail
 refine HA.out.mono ?_
 rintro e w' ⟨h, ns', O', rfl, hr⟩
 go_wp2
 go_ret2
 exact ⟨h, ns', O', rfl, hr⟩
theorem and_any (hS : FamAt B w s b O vars room ns) {a c : Int} (ha : hasB ns a = true) (hc : hasB ns c = true) (hroom : cntT vars ns + cost (rr vars (-1)) .and + 18 < room) :
  Calls Try.prog 19 #[.pointer (some ⟨s, 0, none⟩), .int .i64 a, .int .i64 c] w (AskOut B s b O vars room .and ns a c w) := by
 have HA := Lib.hid (asked_any mkc_and (fun _ _ => by kernel_rfl) hS ha hc (fun h => by cases h) hroom)
 clear hS ha hc
 go_enter Try.func19, Try.ntmps19
 go_wp2_with fail
 refine HA.out.mono ?_
 rintro e w' ⟨h, ns', O', rfl, hr⟩
 go_wp2
 go_ret2
 exact ⟨h, ns', O', rfl, hr⟩
theorem less_any (hS : FamAt B w s b O vars room ns) {a c : Int} (ha : hasB ns a = true) (hc : hasB ns c = true) (hroom : cntT vars ns + cost (rr vars (-1)) .less + 18 < room) :
  Calls Try.prog 23 #[.pointer (some ⟨s, 0, none⟩), .int .i64 a, .int .i64 c] w (AskOut B s b O vars room .less ns a c w) := by
 have HA := Lib.hid (asked_any mkc_less (fun _ _ => by kernel_rfl) hS ha hc (fun h => by cases h) hroom)
 clear hS ha hc
 go_enter Try.func23, Try.ntmps23
 go_wp2_with fail
 refine HA.out.mono ?_
 rintro e w' ⟨h, ns', O', rfl, hr⟩
 go_wp2
 go_ret2
 exact ⟨h, ns', O', rfl, hr⟩
theorem join_any (hS : FamAt B w s b O vars room ns) {a c : Int} (ha : hasB ns a = true) (hc : hasB ns c = true) (hroom : cntT vars ns + cost (rr vars (-1)) .join + 18 < room) :
  Calls Try.prog 25 #[.pointer (some ⟨s, 0, none⟩), .int .i64 a, .int .i64 c] w (AskOut B s b O vars room .join ns a c w) := by
 have HA := Lib.hid (asked_any mkc_join (fun _ _ => by kernel_rfl) hS ha hc (fun h => by cases h) hroom)
 clear hS ha hc
 go_enter Try.func25, Try.ntmps25
 go_wp2_with fail
 refine HA.out.mono ?_
 rintro e w' ⟨h, ns', O', rfl, hr⟩
 go_wp2
 go_ret2
 exact ⟨h, ns', O', rfl, hr⟩
theorem without_any (hS : FamAt B w s b O vars room ns) {a c : Int} (ha : hasB ns a = true) (hc : hasB ns c = true) (hroom : cntT vars ns + cost (rr vars (-1)) .without + 18 < room) :
  Calls Try.prog 52 #[.pointer (some ⟨s, 0, none⟩), .int .i64 a, .int .i64 c] w (AskOut B s b O vars room .without ns a c w) := by
 have HA := Lib.hid (asked_any mkc_without (fun _ _ => by kernel_rfl) hS ha hc (fun h => by cases h) hroom)
 clear hS ha hc
 go_enter Try.func52, Try.ntmps52
 go_wp2_with fail
 refine HA.out.mono ?_
 rintro e w' ⟨h, ns', O', rfl, hr⟩
 go_wp2
 go_ret2
 exact ⟨h, ns', O', rfl, hr⟩
theorem least_any (hS : FamAt B w s b O vars room ns) {a : Int} (ha : hasB ns a = true) (hroom : cntT vars ns + cost (rr vars (-1)) .least + 18 < room) :
  Calls Try.prog 28 #[.pointer (some ⟨s, 0, none⟩), .int .i64 a] w (AskOut B s b O vars room .least ns a 0 w) := by
 have HA := Lib.hid (asked_any mkc_least (fun _ _ => by kernel_rfl) hS ha (end_has0 ns) (fun _ => rfl) hroom)
 clear hS ha
 go_enter Try.func28, Try.ntmps28
 go_wp2_with fail
 refine HA.out.mono ?_
 rintro e w' ⟨h, ns', O', rfl, hr⟩
 go_wp2
 go_ret2
 exact ⟨h, ns', O', rfl, hr⟩
theorem fnew_any (vars room : Nat) (hv : vars <= 24) (hrm : room <= 4000) (w : World) (B : Nat) (hB : B <= w.heap.size) :
  Calls Try.prog 30 #[.int .i64 (vars : Int), .int .i64 (room : Int)] w fun e w' => ∃ s b O, e = .returned (.tuple #[.pointer (some ⟨s, 0, none⟩), .nilIface]) /\ FamAt B w' s b O vars room [] /\ w.heap.size <= s /\ (∀ k, O k -> w.heap.size <= k) /\ Below w.heap.size w w' := by
 have HN := Lib.hid (new_any (room : Int) (by omega) (by omega) w w.heap.size (Nat.le_refl _))
 go_enter Try.func30, Try.ntmps30
 go_wp2_with fail
 refine HN.out.mono ?_
 rintro e w1 ⟨rfl, hA1, hb1⟩
 have hs := hb1.size
 have hO := (fun k (h : Go.Proofs.Ytbklgjmkdhinpaa.Bd.Own (w.heap.size + 1) w.heap.size (.slice none 0 0) k) => (show w.heap.size <= k /\ k < w1.heap.size from by
  obtain ⟨D, hD, -⟩ := hA1.hmap
  have hbm := hD.lt
  have hlt := hA1.lt
  rcases h with h | h | h
  ·omega
  ·omega
  ·simp [Value.ownBlock] at h))
 have hb2 := hb1.alloc hs (.cells #[.pointer (some ⟨w.heap.size + 1, 0, none⟩), .int .i64 (vars : Int)] 70)
 have hA2 := hA1.kept (Kept.alloc (fun _ => False) w1 (.cells #[.pointer (some ⟨w.heap.size + 1, 0, none⟩), .int .i64 (vars : Int)] 70)) (fun _ _ h => h)
 have hfin : SpaceAt B (w1.alloc (.cells #[.pointer (some ⟨w.heap.size + 1, 0, none⟩), .int .i64 (vars : Int)] 70)) w1.heap.size (w.heap.size + 1) (Go.Proofs.Ytbklgjmkdhinpaa.Bd.Own (w.heap.size + 1) w.heap.size (.slice none 0 0)) vars (room : Int) [] := by
  have hA3 : ArenaAt B (w1.alloc (.cells #[.pointer (some ⟨w.heap.size + 1, 0, none⟩), .int .i64 (vars : Int)] 70)) (w.heap.size + 1) w.heap.size (.slice none 0 0) [] [] (room : Int) 2 :=
   ⟨hA2.lt, hA2.croom, hA2.cnodes, hA2.cmap, hA2.cnext, hA2.froz, ownsRow_base hA2.row hB, hA2.hmap, hA2.d1, hA2.d2, hA2.d3, by omega, hB⟩
  refine ⟨⟨_, _, [], 2, hA3, ⟨fun p h => by simp at h, fun j h => by simp at h, by simp, fun j h => by simp at h⟩, ⟨0, rfl, by simp, fun j h => by omega⟩, fun _ h => h⟩, fun k hk => ⟨by have := (hO k hk).1; omega, by have := (hO k hk).2; simp; omega⟩, fun ho => by have := (hO _ ho).2; omega, by simp, by simp, by simp⟩
 have hgood : Good vars [] := ⟨⟨fun j h => by simp at h, fun j h => by simp at h, fun j h => by simp at h, fun j h => by simp at h⟩, fun i j h => by simp at h, fun i h => by simp at h, fun i h => by simp at h, fun i h => by simp at h⟩
 have HF : Hid (FamAt B (w1.alloc (.cells #[.pointer (some ⟨w.heap.size + 1, 0, none⟩), .int .i64 (vars : Int)] 70)) w1.heap.size (w.heap.size + 1) (Go.Proofs.Ytbklgjmkdhinpaa.Bd.Own (w.heap.size + 1) w.heap.size (.slice none 0 0)) vars room []) := ⟨hfin, hgood, hv, hrm, by simp, Nat.le_trans hB hb2.size⟩
 have HB2 := Lib.hid hb2
 have HO := Lib.hid hO
 clear HN hA1 hA2 hfin hb2 hO hgood
 go_wp2
 go_ret2
 exact ⟨_, _, _, rfl, HF.out, hs, fun k hk => (HO.out k hk).1, HB2.out⟩
theorem free_any (h : FamAt B w s b O vars room ns) (bf : Nat) {cp : Nat} (fs : List Int) (hF : IntsAt w bf fs) (hfl : fs.length <= 1000) :
  Calls Try.prog 27 #[.pointer (some ⟨s, 0, none⟩), .slice (some ⟨bf, 0, none⟩) fs.length cp] w fun e w' => ∃ n : Int, e = .returned (.int .i64 n) /\ ∃ O', SpaceAt B w' s b O' vars (room : Int) (swept ns (marksOf ns fs)) /\ Mv O O' w w' := by
 have c0 := h.space.c0
 have hl := h.len
 have HC := Lib.hid (spSweep (cp := cp) h.space h.good.ranked (by omega) h.hB bf fs hF hfl)
 generalize fs.length = n at *
 clear h hF
 go_enter Try.func27, Try.ntmps27
 go_wp2_with fail
 refine HC.out.mono ?_
 rintro e w1 ⟨n, rfl, O', hS, hM⟩
 go_wp2
 go_ret
 exact ⟨n, rfl, O', hS, Mv.of_moves hM⟩
end
end Go.Proofs.Ytbklgjmkdhinpaa.Fm

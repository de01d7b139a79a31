/- What was worked out, in a map by two handles. -/
import Derived.Test.YtbklgjmkdhinpaaFmFun
import Derived.Test.YtbklgjmkdhinpaaFmOps
import Derived.Test.YtbklgjmkdhinpaaBdAt
set_option maxRecDepth 100000
namespace Go.Proofs.Ytbklgjmkdhinpaa.Fm
open Go.RowKit Go.Maps Go.Proofs.Ytbklgjmkdhinpaa.Bd
def stF : Nat -> List Nd -> Int -> Nat -> List Nat
 | 0, _, h, x => if h = 1 then [x] else []
 | d + 1, ns, h, x => if topOf ns h = 24 then (if h = 1 then [x] else []) else stF d ns (nd ns (pl h)).l x ++ stF d ns (nd ns (pl h)).h (x ||| 2 ^ (topOf ns h).toNat)
def stL (ns : List Nd) (h : Int) (x : Nat) : List Nat := stF 24 ns h x
def allS : Nat -> Nat -> List Nat
 | 0, _ => [0]
 | n + 1, v => allS n (v + 1) ++ (allS n (v + 1)).map fun y => 2 ^ v ||| y
theorem allS_low : ∀ (n v y : Nat), y ∈ allS n v -> ∀ i, i < v -> y.testBit i = false
 | 0, v, y, hy, i, hi => by
  unfold allS at hy; rw [List.mem_singleton] at hy; subst hy; simp
 | n + 1, v, y, hy, i, hi => by
  unfold allS at hy
  rcases List.mem_append.1 hy with h | h
  ·exact allS_low n (v + 1) y h i (by omega)
  ·obtain ⟨z, hz, rfl⟩ := List.mem_map.1 h
   rw [Nat.testBit_or, allS_low n (v + 1) z hz i (by omega), Nat.testBit_two_pow]
   simp; omega
section
variable {ns : List Nd} {vars : Nat}
theorem stF_any (hr : Ranked ns) : ∀ (d e : Nat) (h : Int) (x : Nat), 24 <= topOf ns h + d -> 24 <= topOf ns h + e -> stF d ns h x = stF e ns h x
 | 0, 0, h, _, _, _ => rfl
 | 0, e + 1, h, x, hd, _ => by
  have := (topOf_le hr h).2
  unfold stF; rw [if_pos (show topOf ns h = 24 by omega)]
 | d + 1, 0, h, x, _, he => by
  have := (topOf_le hr h).2
  unfold stF; rw [if_pos (show topOf ns h = 24 by omega)]
 | d + 1, e + 1, h, x, hd, he => by
  unfold stF
  by_cases ht : topOf ns h = 24
  ·rw [if_pos ht, if_pos ht]
  ·rw [if_neg ht, if_neg ht]
   obtain ⟨k1, -, k2, -⟩ := kids hr ht
   rw [stF_any hr d e _ _ (by omega) (by omega), stF_any hr d e (nd ns (pl h)).h _ (by omega) (by omega)]
theorem stL_end {h : Int} (ht : topOf ns h = 24) (x : Nat) : stL ns h x = if h = 1 then [x] else [] := by unfold stL stF; rw [if_pos ht]
theorem stL_node (hr : Ranked ns) {h : Int} (ht : topOf ns h ≠ 24) (x : Nat) : stL ns h x = stL ns (nd ns (pl h)).l x ++ stL ns (nd ns (pl h)).h (x ||| 2 ^ (topOf ns h).toNat) := by
 obtain ⟨k1, -, k2, -⟩ := kids hr ht
 have h0 := (topOf_le hr h).1
 show stF 24 ns h x = stF 24 _ _ _ ++ stF 24 _ _ _
 rw [show stF 24 ns h x = stF 23 ns (nd ns (pl h)).l x ++ stF 23 ns (nd ns (pl h)).h (x ||| 2 ^ (topOf ns h).toNat) from by unfold stF; rw [if_neg ht]; rfl]
 rw [stF_any hr 23 24 _ _ (by omega) (by omega), stF_any hr 23 24 (nd ns (pl h)).h _ (by omega) (by omega)]
theorem or_bit_free {y v : Nat} (h : y.testBit v = false) : 2 ^ v ||| y = y ^^^ 2 ^ v := by
 apply Nat.eq_of_testBit_eq; intro i
 rw [Nat.testBit_or, Nat.testBit_two_pow, bit_x]
 by_cases e : i = v
 ·subst e; simp [h]
 ·simp [e, Ne.symm e]
theorem stL_zero (hg : Good vars ns) {h : Int} (x : Nat) (hle : (vars : Int) <= topOf ns h) : stL ns h x = (([0] : List Nat).filter (inB ns h)).map fun y => x ||| y := by
 have ht : topOf ns h = 24 := by
  by_cases t : topOf ns h = 24
  ·exact t
  ·have := top_vars hg t; omega
 rw [stL_end ht, List.filter_cons, inB_end ht]
 by_cases e : h = 1
 ·simp [e]
 ·simp [e]
theorem filter_lo (hr : Ranked ns) {h : Int} {v : Nat} (ht : topOf ns h ≠ 24) (tn : (topOf ns h).toNat = v) (A : List Nat) (low : ∀ y ∈ A, y.testBit v = false) : A.filter (inB ns h) = A.filter (inB ns (nd ns (pl h)).l) := by
 apply List.filter_congr
 intro y hy
 rw [inB_node hr ht, tn, if_neg (by rw [low y hy]; decide)]
theorem filter_hi (hr : Ranked ns) {h : Int} {v : Nat} (ht : topOf ns h ≠ 24) (tn : (topOf ns h).toNat = v) (A : List Nat) (low : ∀ y ∈ A, y.testBit v = false) : A.filter (inB ns h ∘ fun y => 2 ^ v ||| y) = A.filter (inB ns (nd ns (pl h)).h) := by
 apply List.filter_congr
 intro y hy
 have hb := low y hy
 rw [Function.comp_apply, or_bit_free hb, inB_node hr ht, tn, if_pos (by rw [xor_bit, hb]; rfl), xor_back]
theorem filter_no (hr : Ranked ns) {h : Int} {v : Nat} (hv : (v : Int) < topOf ns h) (A : List Nat) : A.filter (inB ns h ∘ fun y => 2 ^ v ||| y) = [] := by
 rw [List.filter_eq_nil_iff]
 intro y hy hin0
 rw [Function.comp_apply] at hin0
 have hin : In ns h (2 ^ v ||| y) := hin0
 have hb : (2 ^ v ||| y).testBit v = true := by rw [Nat.testBit_or, Nat.testBit_two_pow]; simp
 have hc := in_low hr (h := h) (x := 2 ^ v ||| y) (i := v) hv hin
 rw [hb] at hc; cases hc
theorem allS_succ (n v : Nat) : allS (n + 1) v = allS n (v + 1) ++ (allS n (v + 1)).map fun y => 2 ^ v ||| y := rfl
theorem stL_is (hg : Good vars ns) (hv24 : vars <= 24) (n : Nat) : ∀ (v : Nat) (h : Int) (x : Nat), v + n = vars -> hasB ns h = true -> (v : Int) <= topOf ns h -> stL ns h x = ((allS n v).filter (inB ns h)).map fun y => x ||| y := by
 have hr := hg.ranked
 induction n with
 | zero =>
  intro v h x hv hh hle
  exact stL_zero hg x (by omega)
 | succ n ih =>
  intro v h x hv hh hle
  have low : ∀ y ∈ allS n (v + 1), y.testBit v = false := fun y hy => allS_low n (v + 1) y hy v (by omega)
  rw [allS_succ, List.filter_append, List.map_append, List.filter_map, List.map_map]
  by_cases e : topOf ns h = (v : Int)
  ·have ht : topOf ns h ≠ 24 := by omega
   obtain ⟨k1, k2, k3, k4⟩ := kids hr ht
   have tn : (topOf ns h).toNat = v := by omega
   rw [stL_node hr ht, ih (v + 1) _ x (by omega) k2 (by omega), ih (v + 1) _ _ (by omega) k4 (by omega), tn, filter_lo hr ht tn _ low, filter_hi hr ht tn _ low]
   congr 1
   apply List.map_congr_left
   intro y hy
   show _ = x ||| (2 ^ v ||| y)
   rw [Nat.or_assoc]
  ·rw [ih (v + 1) h x (by omega) hh (by omega), filter_no hr (by omega)]
   simp
theorem stL_all (hg : Good vars ns) (hv24 : vars <= 24) {h : Int} (hh : hasB ns h = true) : stL ns h 0 = (allS vars 0).filter (inB ns h) := by
 rw [stL_is hg hv24 vars 0 h 0 (by omega) hh (topOf_le hg.ranked h).1]
 simp
theorem stF_len (ns : List Nd) : ∀ (d : Nat) (h : Int) (x : Nat), (stF d ns h x).length <= 2 ^ d
 | 0, h, x => by unfold stF; split <;> simp
 | d + 1, h, x => by
  unfold stF
  have := Nat.one_le_two_pow (n := d + 1)
  split
  ·split <;> simp <;> omega
  ·have h1 := stF_len ns d (nd ns (pl h)).l x
   have h2 := stF_len ns d (nd ns (pl h)).h (x ||| 2 ^ (topOf ns h).toNat)
   rw [List.length_append, Nat.pow_succ]; omega
end
end Go.Proofs.Ytbklgjmkdhinpaa.Fm
namespace Go.Proofs.Ytbklgjmkdhinpaa.Fm
open Go.RowKit Go.Maps Go.Proofs.Ytbklgjmkdhinpaa.Bd
theorem rowPair : (115 : TypeId) < Try.prog.types.size := of_decide_eq_true (by kernel_rfl)
theorem widePair : (match Try.prog.underlying 115 with | some (.array _ _) | some (.struct _) => true | _ => false) = true := by rw [Try.underlying115]
theorem lawPair : Keyed Try.prog 115 := Keyed.of_law (deep_law_laid laidOut (m := 2) (by omega) rowPair (by kernel_rfl) widePair)
theorem keyTypePair : Try.prog.keyType 115 = true := by kernel_rfl
theorem cellsPair : Try.prog.cellsOf 115 = 2 := by kernel_rfl
def prV (p : Int × Int) : Value := .agg #[.int .i64 p.1, .int .i64 p.2]
def PrOk (p : Int × Int) : Prop := I64 p.1 /\ I64 p.2
def prLit (p : Int × Int) : Lit := .string (keyBytes [.int .i64 p.1, .int .i64 p.2])
theorem keyPair (p : Int × Int) (h : PrOk p) : keyOf Try.prog 115 (prV p) = some (prLit p) := by
 have hf : (prV p).formed Try.prog 115 = true := by simp [Value.formed, Try.underlying115, cellsPair, prV]
 unfold keyOf
 rw [Try.underlying115]
 simp only [keyTypePair, hf, Bool.and_self, if_true]
 obtain ⟨d, hd⟩ : ∃ d, Try.prog.types.size + 1 = d + 2 := ⟨Try.prog.types.size - 1, by have : 0 < Try.prog.types.size := Nat.lt_of_le_of_lt (Nat.zero_le _) rowPair; omega⟩
 rw [hd]
 unfold Program.keyLits
 rw [Try.underlying115]
 have hc : (prV p).cells.toList = [.int .i64 p.1, .int .i64 p.2] := rfl
 rw [hc]
 simp [cellsPair, cellsInt, List.range, List.range.loop, litsInt d h.1, litsInt d h.2, prLit]
theorem prLit_key (p : Int × Int) : WideAt.IsKeyLit (prLit p) := trivial
theorem prLit_inj {p q : Int × Int} (hp : PrOk p) (hq : PrOk q) (h : prLit p = prLit q) : p = q := by
 have := lawPair.inj (keyPair p hp) (h ▸ keyPair q hq)
 cases p; cases q
 simpa [prV] using this
end Go.Proofs.Ytbklgjmkdhinpaa.Fm
namespace Go.Proofs.Ytbklgjmkdhinpaa.Bd
open Go.RowKit Go.Maps
theorem Rep.put_over {α β : Type} [DecidableEq α] {ok : α -> Prop} {kl : α -> Lit} {el : β -> DataW Unit} {D : DataW Unit} {L : List (α × β)} (h : Rep ok kl el D L) (inj : ∀ a b, ok a -> ok b -> kl a = kl b -> a = b) (key : ∀ a, WideAt.IsKeyLit (kl a)) {a : α} (b : β) (hm : a ∈ L.map Prod.fst) :
  Rep ok kl el (D.put (kl a) (el b)) (L.map fun q => if q.1 = a then (q.1, b) else q) := by
 have hk : (L.map fun q => if q.1 = a then (q.1, b) else q).map Prod.fst = L.map Prod.fst := by
  rw [List.map_map]; apply List.map_congr_left; intro q _; simp only [Function.comp]; split <;> rfl
 obtain ⟨p0, hp0, rfl⟩ := List.mem_map.1 hm
 have ha := h.oks p0 hp0
 have hne : ∀ c, ok c -> c ≠ p0.1 -> kl c ≠ kl p0.1 := fun c hc hca e => hca (inj c p0.1 hc ha e)
 refine ⟨h.tidy.put (key _) _, ?_, ?_, ?_, ?_, ?_, by rw [hk]; exact h.nodup⟩
 ·rw [size_put h.tidy, (h.has p0.1 ha).2 hm]; simp [h.size]
 ·intro q hq
  obtain ⟨r, hr, rfl⟩ := List.mem_map.1 hq
  have := h.oks r hr
  split <;> exact this
 ·intro c hc
  rw [hk]
  by_cases e : c = p0.1
  ·rw [e, has_put_same h.tidy.isMap (key _)]; simp only [true_iff]; exact hm
  ·rw [has_put_other (hne c hc e)]; exact h.has c hc
 ·intro x hx
  have hex : ∃ r ∈ L, x = kl r.1 := by
   by_cases e : x = kl p0.1
   ·exact ⟨p0, hp0, e⟩
   ·rw [has_put_other e] at hx; exact h.all x hx
  obtain ⟨r, hr, e⟩ := hex
  exact ⟨_, List.mem_map_of_mem hr, by rw [e]; split <;> rfl⟩
 ·intro q hq z
  obtain ⟨r, hr, rfl⟩ := List.mem_map.1 hq
  by_cases e : r.1 = p0.1
  ·rw [if_pos e]; show (D.put (kl p0.1) (el b)).atKey (kl r.1) z = el b
   rw [e]; exact atKey_put_same h.tidy.isMap (key _) _ _
  ·rw [if_neg e, atKey_put_other (hne r.1 (h.oks r hr) e)]; exact h.at' r hr z
end Go.Proofs.Ytbklgjmkdhinpaa.Bd
namespace Go.Proofs.Ytbklgjmkdhinpaa.Fm
open Go.RowKit Go.Maps Go.Proofs.Ytbklgjmkdhinpaa.Bd
section
variable {w : World} {bm n : Nat} {D : DataW Unit} {L : List ((Int × Int) × Int)}
theorem plook_found (hD : w.ownsMap Try.prog 115 (plainElem Try.prog 3) bm n D) (hR : Rep PrOk prLit (fun x : Int => .lit (.int .i64 x)) D L) {p : (Int × Int) × Int} (hp : p ∈ L) :
  (Instr.lookup 114 (.map (some bm)) (.agg #[.int .i64 p.1.1, .int .i64 p.1.2]) true).run Try.prog w = .ok (.tuple #[.int .i64 p.2, .bool true]) w := by
 obtain ⟨v, ps, hrun, hv⟩ := hD.look_ok lawPair Try.underlying114 (zeroInt w) (zd := .lit (.int .i64 0)) (zp := []) (elInt ⟨by omega, by omega⟩) (keyPair p.1 (hR.oks p hp))
 rw [hR.at' p hp] at hv
 obtain ⟨a, rfl, hz, -⟩ := plainElem_int_inv Try.underlying3 hv
 rw [(hR.has p.1 (hR.oks p hp)).2 (List.mem_map_of_mem hp)] at hrun
 simp at hz
 rw [<- hz.1] at hrun
 exact hrun
theorem plook_none (hD : w.ownsMap Try.prog 115 (plainElem Try.prog 3) bm n D) (hR : Rep PrOk prLit (fun x : Int => .lit (.int .i64 x)) D L) {a b : Int} (ha : PrOk (a, b)) (hn : (a, b) ∉ L.map Prod.fst) :
  (Instr.lookup 114 (.map (some bm)) (.agg #[.int .i64 a, .int .i64 b]) true).run Try.prog w = .ok (.tuple #[.int .i64 0, .bool false]) w := by
 obtain ⟨v, ps, hrun, hv⟩ := hD.look_ok lawPair Try.underlying114 (zeroInt w) (zd := .lit (.int .i64 0)) (zp := []) (elInt ⟨by omega, by omega⟩) (keyPair (a, b) ha)
 have hh := hR.not ha hn
 rw [atKey_of_not_has hh] at hv
 obtain ⟨c, rfl, hz, -⟩ := plainElem_int_inv Try.underlying3 hv
 rw [hh] at hrun
 simp at hz
 rw [<- hz.1] at hrun
 exact hrun
theorem pstore (hD : w.ownsMap Try.prog 115 (plainElem Try.prog 3) bm L.length D) (hR : Rep PrOk prLit (fun x : Int => .lit (.int .i64 x)) D L) (hl : L.length < 1000000000) {a b : Int} (ha : PrOk (a, b)) {x : Int} (hx : I64 x) :
  ∃ w' D', (Instr.mapUpdate 114 (.map (some bm)) (.agg #[.int .i64 a, .int .i64 b]) (.int .i64 x)).run Try.prog w = .ok () w' /\ w'.ownsMap Try.prog 115 (plainElem Try.prog 3) bm (memoPut L (a, b) x).length D' /\ Rep PrOk prLit (fun x : Int => .lit (.int .i64 x)) D' (memoPut L (a, b) x) /\ Kept (fun k => k = bm) w w' := by
 obtain ⟨w', hrun, h1, h2⟩ := hD.update lawPair Try.underlying114 (by unfold maxLen; omega) (keyPair (a, b) ha) (elInt hx)
 have hR' : Rep PrOk prLit (fun x : Int => .lit (.int .i64 x)) (D.put (prLit (a, b)) (.lit (.int .i64 x))) (memoPut L (a, b) x) := by
  unfold memoPut
  by_cases hm : (a, b) ∈ L.map Prod.fst
  ·rw [if_pos hm]; exact hR.put_over (fun _ _ => prLit_inj) prLit_key x hm
  ·rw [if_neg hm]; exact hR.put (fun _ _ => prLit_inj) prLit_key ha hm x
 exact ⟨w', _, hrun, hR'.size ▸ ownsMap_norm h1, hR', Kept.of_grown h2 (fun i h => by cases h; rfl)⟩
end
end Go.Proofs.Ytbklgjmkdhinpaa.Fm

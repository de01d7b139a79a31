/- The text of a catalog in which one needs another: plain. -/
import Derived.Shelf.SlGeneric
import Derived.Shelf.SlicesE.Clone
import Derived.Shelf.SlicesG.Delete
import Derived.Test.YtpmpnbbihmgdpaaGreatDoorProg
import Derived.Test.YtpmpnbbihmgdpaaGreatDoorCtOf
import Derived.Test.YtpmpnbbihmgdpaaGreatDoorPlNeeded
import Derived.Lib.OwnBridge
import Derived.Test.YtpmpnbbihmgdpaaGreatDoorPlSmall
import Derived.Test.YtpmpnbbihmgdpaaGreatDoorPlMath
set_option maxRecDepth 100000
namespace Go.Proofs
open Go.Shelf
def Tryz.delInt_ren : Go.Shelf.Ren := ⟨fun | 45 => 49 | n => n, fun | 22 => 31 | 23 => 3 | 3 => 3 | 4 => 4 | 0 => 0 | n => n, fun | n => n⟩
theorem Tryz.delInt : Go.Proofs.SlLaysN.n45 Tryz.prog Tryz.delInt_ren := {
 mixed := by kernel_rfl
 f45 := ⟨Tryz.f49.name, by decide, Tryz.func49.trans (congrArg some (by kernel_rfl))⟩
 t0 := Tryz.underlying0
 a0 := Tryz.isAgg0
 z0 := Tryz.sizeOf0
 v0 := Tryz.zeroValue0
 t3 := Tryz.underlying3
 a3 := Tryz.isAgg3
 z3 := Tryz.sizeOf3
 v3 := Tryz.zeroValue3
 t4 := Tryz.underlying4
 a4 := Tryz.isAgg4
 z4 := Tryz.sizeOf4
 v4 := Tryz.zeroValue4
 t22 := Tryz.underlying31
 a22 := Tryz.isAgg31
 z22 := Tryz.sizeOf31
 v22 := Tryz.zeroValue31
 t23 := Tryz.underlying3
 a23 := Tryz.isAgg3
 z23 := Tryz.sizeOf3
 v23 := Tryz.zeroValue3
 i23 := by kernel_rfl }
end Go.Proofs
namespace Go.Proofs.YtpmpnbbihmgdpaaGreatDoor
section
open Go.RowKit Go.Deep Sv
def BoolsIn (w : World) (a : Option Addr) (bs : List Bool) : Prop := ∀ i, i < bs.length -> ∃ ad : Addr, a = some ad /\ ad.block < w.heap.size /\ w.cell? (ad.add i) = some (.bool (bs.getD i false))
theorem BoolsIn.below {B : Nat} {w w' : World} {a : Option Addr} {bs : List Bool} (h : BoolsIn w a bs) (hb : Below B w w') (hB : w.heap.size <= B) : BoolsIn w' a bs := fun i hi => by
 obtain ⟨ad, h1, h2, h3⟩ := h i hi
 exact ⟨ad, h1, Nat.lt_of_lt_of_le h2 hb.size, (hb.cell (p := ad.add i) (by rw [addr_block]; omega)).trans h3⟩
def CO (B : Nat) (W : World) (v : Value) (K : List (List Int)) : Prop := ∃ cs, W.ownsRow B 143 1 v K.length cs /\ ClsK 0 W cs K
theorem CO.new {B : Nat} {W W' : World} {v : Value} {K : List (List Int)} (h : CO B W v K) (hb : Below W.heap.size W W') : CO B W' v K := by
 obtain ⟨cs, h1, h2⟩ := h
 exact ⟨cs, row_new' h1 hb, h2.kp (Kp.new hb)⟩
theorem CO.app {B : Nat} {W w7 : World} {v v' : Value} {K : List (List Int)} {c : List Int} {a : Option Addr} {cap : Nat} {cs : List Value} (hB : B <= W.heap.size) (hrow : W.ownsRow B 143 1 v K.length cs) (hck : ClsK 0 W cs K)
  (hc1 : c.length <= cap) (hc2 : cap <= 9223372036854775807) (hi : IntsK 0 W a c)
  (hown : w7.ownsRow B 143 1 v' (K.length + 1) (cs ++ [.slice a c.length cap])) (hg : (W.alloc (.cells #[.slice a c.length cap] 143)).grownBy w7 v.ownBlock) : CO B w7 v' (K ++ [c]) /\ Below B W w7 := by
 have hbn := below_new W (.cells #[.slice a c.length cap] 143)
 have hk : Kp 0 (W.alloc (.cells #[.slice a c.length cap] 143)) w7 := Kp.grown (ownsRow_base (row_new' hrow hbn) (Nat.zero_le _)) hg (by decide)
 have hk3 := (Kp.new (B := 0) hbn).trans hk
 exact ⟨⟨_, by simpa using hown, (hck.kp hk3).snoc hc1 hc2 (hi.kp hk3)⟩, (hbn.mono hB).grown hg (by simp; omega) (fun k hk => (hrow.lt k hk).1)⟩
theorem RS.at {B : Nat} {W : World} {cv fv : Value} {P : List (Int × List Int)} (h : RS B W cv fv (P.map Prod.snd) (P.map Prod.fst)) (i : Nat) (hi : i < P.length) :
  ∃ cg cc fg fc a cap, cv = .slice (some ⟨cg, 0, none⟩) P.length cc /\ fv = .slice (some ⟨fg, 0, none⟩) P.length fc /\ W.cell? ⟨cg, i, none⟩ = some (.slice a (P.getD i default).2.length cap) /\ W.cell? ⟨fg, i, none⟩ = some (.int .i64 (P.getD i default).1) /\ IntsK 0 W a (P.getD i default).2 /\ PlA a := by
 obtain ⟨cs, h1, h2, _, h4⟩ := h.crow
 have h3 := h.frow
 obtain ⟨cg, cc, e1, _, hc1⟩ := (rowAt_own h1).cells (by rw [List.length_map]; omega)
 obtain ⟨fg, fc, e2, _, hc2⟩ := (rowAt_own h3).cells (by rw [List.length_map]; omega)
 obtain ⟨a, cap, q1, _, _, q4⟩ := h2.2 i (by simpa using hi)
 have g1 : (P.map Prod.snd).getD i [] = (P.getD i default).2 := by simp [List.getD_eq_getElem?_getD, hi]
 have g2 : (P.map Prod.fst).getD i 0 = (P.getD i default).1 := by simp [List.getD_eq_getElem?_getD, hi]
 rw [g1] at q1 q4
 refine ⟨cg, cc, fg, fc, a, cap, by simpa using e1, by simpa using e2, hc1 i _ q1, hc2 i _ (by rw [icells_at _ _ (by simpa using hi), g2]), q4, ?_⟩
 exact h4 _ (List.mem_of_getElem? q1) _ _ _ rfl
end
section
open Go.RowKit Go.Deep Sv
def ordG : Option (List Nat) -> Except Int (List Nat)
 | none => .error 11
 | some l => .ok l
noncomputable def ordR (its : List It) (ls : List Ln) (set : Nat) : Except Int (List Nat) :=
 if (fitsF its ls set).1 = false then .error 13 else ordG (ordF its ls set)
def OrderRes (w : World) (r : Except Int (List Nat)) (e : Ending) (w' : World) : Prop :=
 match r with
 | .error k => e = .returned (.tuple #[.slice none 0 0, .iface 34 (.int .i64 k)]) /\ Below w.heap.size w w'
 | .ok l => ∃ v, e = .returned (.tuple #[v, .nilIface]) /\ w'.ownsRow w.heap.size 3 1 v l.length (icells (natS l)) /\ Below w.heap.size w w'
theorem idx_nat (p : Nat -> Bool) (l : List Nat) : idxF (fun x : Int => p x.toNat) (natS l) = idxF p l := by
 unfold idxF natS
 rw [List.findIdx?_map]
 have : ((fun x : Int => p x.toNat) ∘ fun n : Nat => (n : Int)) = p := by funext n; simp
 rw [this]
theorem ordGo_nil (nd : List Nat) (f : Nat) (left : Nat) (out : List Nat) : ordGo nd f [] left out = some out := by
 cases f <;> simp [ordGo]
theorem ordGo_none {nd wait : List Nat} {left : Nat} {out : List Nat} (h : wait ≠ []) (hi : wait.findIdx? (fun i => decide (nd.getD i 0 &&& left = 0)) = none) : ordGo nd wait.length wait left out = none := by
 cases wait with
 | nil => exact absurd rfl h
 | cons a l =>
  rw [List.length_cons, ordGo, if_neg h, hi]
theorem ordGo_some {nd wait : List Nat} {left : Nat} {out : List Nat} {j : Nat} (hi : wait.findIdx? (fun i => decide (nd.getD i 0 &&& left = 0)) = some j) : ordGo nd wait.length wait left out = ordGo nd (wait.eraseIdx j).length (wait.eraseIdx j) (left &&& (18446744073709551615 - 2 ^ wait.getD j 0)) (out ++ [wait.getD j 0]) := by
 have hj := (List.findIdx?_eq_some_iff_findIdx_eq.1 hi).1
 cases wait with
 | nil => simp at hj
 | cons a l =>
  rw [List.length_eraseIdx_of_lt hj]
  simp only [List.length_cons, Nat.add_sub_cancel]
  rw [ordGo, if_neg (by simp), hi]
theorem natS_erase (l : List Nat) (j : Nat) : natS (l.eraseIdx j) = (natS l).eraseIdx j := by
 unfold natS
 rw [List.eraseIdx_eq_take_drop_succ, List.eraseIdx_eq_take_drop_succ, List.map_append, List.map_take, List.map_drop]
theorem grown_set (W : World) (b i : Nat) (v : Value) : W.grownBy (W.setCell ⟨b, i, none⟩ v) (some b) :=
 ⟨rfl, rfl, rfl, by simp, fun k _ hne => Below.heap_setCell _ _ _ k (fun e => hne (by rw [e]))⟩
theorem del_one (c : List Int) (i g cap B : Nat) (w : World) (hv : w.ownsRow B 3 1 (.slice (some ⟨g, 0, none⟩) c.length cap) c.length (icells c)) (hi : i < c.length) :
  Calls Tryz.prog 49 #[.slice (some ⟨g, 0, none⟩) c.length cap, .int .i64 (i : Int), .int .i64 ((i + 1 : Nat) : Int)] w fun e w' => e = .returned (.slice (some ⟨g, 0, none⟩) (c.eraseIdx i).length cap) /\ w'.ownsRow B 3 1 (.slice (some ⟨g, 0, none⟩) (c.eraseIdx i).length cap) (c.eraseIdx i).length (icells (c.eraseIdx i)) /\ w.grownBy w' (some g) := by
 have hv' : w.ownsRow B 3 1 (.slice (some ⟨g, 0, none⟩) c.length cap) c.length (c.map (Value.int .i64)) := hv
 obtain ⟨g', cap', e, hb, hlt, hn, hm, hl', hH⟩ := Lib.holds_of_ownsRow hv' (fun e => by cases e)
 cases e
 refine (AnyG.slices_Delete_int Tryz.delInt g 0 cap i (i + 1) c w hH hn (by unfold maxLen at hm; omega) (by omega) (by omega)).mono ?_
 rintro e w' ⟨rfl, q, rfl⟩
 have e1 : i + 1 - i = 1 := by omega
 rw [e1]
 have e2 : (c.take i ++ c.drop (i + 1) ++ List.replicate 1 0).take (c.length - 1) = c.eraseIdx i := by
  rw [List.eraseIdx_eq_take_drop_succ, List.take_append_of_le_length (by simp; omega), List.take_of_length_le (by simp; omega)]
 have hlen : (c.eraseIdx i).length = c.length - 1 := List.length_eraseIdx_of_lt hi
 have h := Lib.ownsRow_putRow (q := q) (k := c.length - 1) (ys := c.take i ++ c.drop (i + 1) ++ List.replicate 1 0) hv' (by simp; omega) (by omega)
 rw [e2] at h
 rw [hlen]
 refine ⟨rfl, h, ⟨rfl, rfl, rfl, by simp [Sort.putRow, Sort.mapBlock, Sort.ahead], fun k _ hne => ?_⟩⟩
 have hne' : g ≠ k := fun e => hne (by rw [e])
 simp [Sort.putRow, Sort.mapBlock, Sort.ahead, Array.getElem?_modify, hne']
structure OrdS (w W : World) (g Bw b8 b10 n : Nat) (nd wait out : List Nat) (left : Nat) (wv ov : Value) : Prop where
 p8 : Blk W b8 57 #[.slice (some ⟨g, 0, none⟩) n n]
 p10 : Blk W b10 69 #[.int .u64 (left : Int)]
 nd : NdB W g nd
 wait : W.ownsRow Bw 3 1 wv wait.length (icells (natS wait))
 wlt : ∀ k, wv.ownBlock = some k -> k < b8
 out : W.ownsRow (b10 + 1) 3 1 ov out.length (icells (natS out))
 B : Below w.heap.size w W
 h1 : w.heap.size <= g
 h2 : g < Bw
 h3 : Bw <= b8
 h4 : b8 < b10
section
variable {w W W' : World} {g Bw b8 b10 n left : Nat} {nd wait out : List Nat} {wv ov : Value}
theorem OrdS.new (h : OrdS w W g Bw b8 b10 n nd wait out left wv ov) (hb : Below W.heap.size W W') : OrdS w W' g Bw b8 b10 n nd wait out left wv ov :=
 ⟨h.p8.below hb h.p8.lt, h.p10.below hb h.p10.lt, h.nd.below hb, row_new' h.wait hb, h.wlt, row_new' h.out hb, h.B.trans (hb.mono h.B.size), h.h1, h.h2, h.h3, h.h4⟩
theorem NdB.kept {row : Option Nat} (h : NdB W g nd) (hg : W.grownBy W' row) (hne : some g ≠ row) : NdB W' g nd := by
 obtain ⟨cur, h1, h2⟩ := h
 exact ⟨cur, h1.kept hg hne, h2⟩
theorem OrdS.app (h : OrdS w W g Bw b8 b10 n nd wait out left wv ov) {x : Nat} {w7 : World} {v7 : Value} (hown : w7.ownsRow (b10 + 1) 3 1 v7 (out.length + 1) (icells (natS out) ++ [.int .i64 (x : Int)])) (hgr : (W.alloc (.cells #[.int .i64 (x : Int)] 3)).grownBy w7 ov.ownBlock) :
  OrdS w w7 g Bw b8 b10 n nd wait (out ++ [x]) left wv v7 := by
 have h' := h.new (below_new W (.cells #[.int .i64 (x : Int)] 3))
 have ho : ∀ k, k <= b10 -> some k ≠ ov.ownBlock := fun k hk e => by have := (h.out.lt k e.symm).1; omega
 have hh := h.h3; have hh4 := h.h4; have hh2 := h.h2; have hh1 := h.h1
 refine ⟨h'.p8.kept hgr (ho _ (by omega)), h'.p10.kept hgr (ho _ (by omega)), h'.nd.kept hgr (ho _ (by omega)), h'.wait.kept hgr ?_, h.wlt, ?_, h'.B.grown hgr (by have := h'.B.size; omega) (fun k hk => by have := (h.out.lt k hk).1; omega), h.h1, h.h2, h.h3, h.h4⟩
 ·cases hw : wv.ownBlock with
  | none => exact Or.inl rfl
  | some k => exact Or.inr (ho k (by have := h.wlt k hw; omega))
 ·rw [natS_snoc, icells_snoc, List.length_append]
  exact hown
theorem OrdS.store (h : OrdS w W g Bw b8 b10 n nd wait out left wv ov) (l2 : Nat) : OrdS w (W.setCell ⟨b10, 0, none⟩ (.int .u64 (l2 : Int))) g Bw b8 b10 n nd wait out l2 wv ov := by
 have hgr := grown_set W b10 0 (.int .u64 (l2 : Int))
 have hh := h.h3; have hh4 := h.h4; have hh2 := h.h2; have hh1 := h.h1
 refine ⟨h.p8.kept hgr (fun e => by cases e; omega), ?_, h.nd.kept hgr (fun e => by cases e; omega), h.wait.kept hgr ?_, h.wlt, row_setLow h.out (Nat.lt_succ_self _), h.B.setCell (p := ⟨b10, 0, none⟩) (show w.heap.size <= b10 by omega) _, h.h1, h.h2, h.h3, h.h4⟩
 ·exact h.p10.set (i := 0)
 ·cases hw : wv.ownBlock with
  | none => exact Or.inl rfl
  | some k => exact Or.inr (fun e => by have := h.wlt k hw; cases e; omega)
theorem OrdS.del {gw cap cap2 j : Nat} {w2 : List Nat} (h : OrdS w W g Bw b8 b10 n nd wait out left (.slice (some ⟨gw, 0, none⟩) j cap) ov) (hown : W'.ownsRow Bw 3 1 (.slice (some ⟨gw, 0, none⟩) w2.length cap2) w2.length (icells (natS w2))) (hgr : W.grownBy W' (some gw)) :
  OrdS w W' g Bw b8 b10 n nd w2 out left (.slice (some ⟨gw, 0, none⟩) w2.length cap2) ov := by
 have hw := h.wlt gw rfl
 have hw2 := (h.wait.lt gw rfl).1
 have hh := h.h3; have hh4 := h.h4; have hh2 := h.h2; have hh1 := h.h1
 refine ⟨h.p8.kept hgr (fun e => by cases e; omega), h.p10.kept hgr (fun e => by cases e; omega), h.nd.kept hgr (fun e => by cases e; omega), hown, fun k hk => by cases hk; exact hw, h.out.kept hgr ?_, h.B.grown hgr (by have := h.B.size; omega) (fun k hk => by cases hk; omega), h.h1, h.h2, h.h3, h.h4⟩
 cases ho : ov.ownBlock with
 | none => exact Or.inl rfl
 | some k => exact Or.inr (fun e => by have := (h.out.lt k ho).1; cases e; omega)
end
end
section
open Go.RowKit Go.Deep Sv
def plnT : ByteArray := ⟨#[112, 97, 99, 107, 97, 103, 101, 32, 97, 32, 49, 46, 48, 46, 48, 10, 112, 97, 99, 107, 97, 103, 101, 32, 98, 32, 49, 46, 48, 46, 48, 10, 110, 101, 101, 100, 115, 32, 97, 32, 49, 46, 48, 46, 48, 32, 98, 32, 97, 110, 121, 10]⟩
def nmB : ByteArray := ⟨#[98]⟩
theorem pln_lns : lnsF plnT 52 0 = [(0, ⟨#[112, 97, 99, 107, 97, 103, 101, 32, 97, 32, 49, 46, 48, 46, 48]⟩), (16, ⟨#[112, 97, 99, 107, 97, 103, 101, 32, 98, 32, 49, 46, 48, 46, 48]⟩), (32, ⟨#[110, 101, 101, 100, 115, 32, 97, 32, 49, 46, 48, 46, 48, 32, 98, 32, 97, 110, 121]⟩)] := by kernel_rfl
theorem pln_l2 : lineF ⟨#[112, 97, 99, 107, 97, 103, 101, 32, 98, 32, 49, 46, 48, 46, 48]⟩ = .ok ⟨1, nmB, 1, 0, 0, nmN, []⟩ := by kernel_rfl
theorem pln_l3 : lineF ⟨#[110, 101, 101, 100, 115, 32, 97, 32, 49, 46, 48, 46, 48, 32, 98, 32, 97, 110, 121]⟩ = .ok ⟨2, nmA, 1, 0, 0, nmB, [(0, 1000000000)]⟩ := by kernel_rfl
def plnL : List Ln := [⟨1, nmA, 1, 0, 0, nmN, []⟩, ⟨1, nmB, 1, 0, 0, nmN, []⟩, ⟨2, nmA, 1, 0, 0, nmB, [(0, 1000000000)]⟩]
def plnI : List It := [⟨nmA, 1, 0, 0⟩, ⟨nmB, 1, 0, 0⟩]
theorem nmB_ok : NameOk nmB := by
 refine ⟨by decide, by decide, by decide, by rw [ByteArray.toList_eq]; decide, by rw [ByteArray.toList_eq]; decide, fun k hk => ?_⟩
 obtain rfl : k = 0 := by have : nmB.size = 1 := rfl; omega
 left
 decide
theorem pln_c2 : ctCheck ⟨1, nmB, 1, 0, 0, nmN, []⟩ = 0 := by
 unfold ctCheck
 rw [if_neg (by simp), if_neg (fun h => by rcases h with h | ⟨h, _⟩; exact h nmB_ok; simp [Ln.pair] at h), if_neg (fun h => h.2 rfl), if_neg (by simp), if_neg (by simp), if_neg (by simp [InV])]
theorem pln_c3 : ctCheck ⟨2, nmA, 1, 0, 0, nmB, [(0, 1000000000)]⟩ = 0 := by
 unfold ctCheck
 rw [if_neg (by simp), if_neg (fun h => by rcases h with h | ⟨_, h⟩; exact h nmA_ok; exact h nmB_ok), if_neg (fun h => h.1 (Or.inl rfl)), if_neg (by simp), if_neg (by simp), if_neg (by simp [InV])]
theorem pln_n2 : ¬ (8 < namesN ([(⟨nmA, 1, 0, 0⟩ : It)] ++ [(⟨nmB, 1, 0, 0⟩ : It)]) \/ ([(⟨nmA, 1, 0, 0⟩ : It)]).length = 24) := by
 have : namesN ([(⟨nmA, 1, 0, 0⟩ : It)] ++ [(⟨nmB, 1, 0, 0⟩ : It)]) = 2 := by kernel_rfl
 rw [this]; simp
theorem pln_gath : gathF plnL 0 [] = .ok [⟨nmA, 1, 0, 0⟩, ⟨nmB, 1, 0, 0⟩] := by
 unfold plnL
 rw [gathF, if_neg (by rw [one_c1]; simp), if_pos rfl, if_neg (by simp), if_neg (show ¬ (8 < namesN ([] ++ [Ln.it ⟨1, nmA, 1, 0, 0, nmN, []⟩]) \/ ([] : List It).length = 24) from one_n1)]
 rw [gathF, if_neg (by rw [pln_c2]; simp), if_pos rfl, if_neg (by decide), if_neg (show ¬ (8 < namesN ([] ++ [Ln.it ⟨1, nmA, 1, 0, 0, nmN, []⟩] ++ [Ln.it ⟨1, nmB, 1, 0, 0, nmN, []⟩]) \/ ([] ++ [Ln.it ⟨1, nmA, 1, 0, 0, nmN, []⟩] : List It).length = 24) from pln_n2)]
 rw [gathF, if_neg (by rw [pln_c3]; simp), if_neg (by simp), gathF]
 rfl
theorem pln_le : (!decide (ctCmp ⟨nmB, 1, 0, 0⟩ ⟨nmA, 1, 0, 0⟩ < 0)) = true := by kernel_rfl
theorem pln_sort : sortF [⟨nmA, 1, 0, 0⟩, ⟨nmB, 1, 0, 0⟩] = plnI := by
 unfold sortF plnI
 rw [List.mergeSort]
 simp [List.MergeSort.Internal.splitInTwo, List.splitAt, List.splitAt.go, pln_le]
theorem pln_miss : missF plnL 0 plnI = none := by kernel_rfl
theorem pln_new : newF plnL = .ok plnI := by
 unfold newF
 rw [if_neg (by decide), pln_gath]
 simp only [pln_sort, pln_miss]
theorem pln_pl : plF (lnsF plnT 52 0) [] = .ok [(0, ⟨1, nmA, 1, 0, 0, nmN, []⟩), (16, ⟨1, nmB, 1, 0, 0, nmN, []⟩), (32, ⟨2, nmA, 1, 0, 0, nmB, [(0, 1000000000)]⟩)] := by
 rw [pln_lns, plF, one_l1]
 simp only [plF, pln_l2, pln_l3]
 rfl
theorem pln_parse : parseF plnT = .ok (plnL, plnI) := by
 unfold parseF
 rw [if_neg (by decide), show plnT.size = 52 from rfl, pln_pl]
 have h := pln_new
 unfold plnL at h
 simp only [List.map_cons, List.map_nil, h]
 rfl
theorem pln_has : hasF [(0, 1000000000)] (plnI.getD 1 default) := by
 refine ⟨by simp [plnI, InV], ?_⟩
 simp [plnI, mem, numV]
theorem pln_row : ctRow plnI nmB = (1, 2) := by kernel_rfl
theorem pln_among : amongF plnI nmB [(0, 1000000000)] = [1] := by
 unfold amongF
 rw [pln_row]
 show List.filter _ [1] = [1]
 rw [List.filter_cons, if_pos (by simpa using pln_has)]
 rfl
theorem pln_own : ownN plnI ⟨2, nmA, 1, 0, 0, nmB, [(0, 1000000000)]⟩ = 0 := by kernel_rfl
theorem pln_ab : nmA ≠ nmB := by decide
theorem pln_single (set : Nat) (h : set < 4) : singleB plnI set = true := by
 rw [single_iff pln_new]
 refine ⟨h, fun i k hi hk hne _ _ => ?_⟩
 have hi' : i < 2 := hi
 have hk' : k < 2 := hk
 match i, k, hi', hk', hne with
 | 0, 1, _, _, _ => exact pln_ab
 | 1, 0, _, _, _ => exact pln_ab.symm
 | 0, 0, _, _, h => exact absurd rfl h
 | 1, 1, _, _, h => exact absurd rfl h
theorem pln_keep (set : Nat) : keepsB plnI ⟨2, nmA, 1, 0, 0, nmB, [(0, 1000000000)]⟩ set = (!set.testBit 0 || set.testBit 1) := by
 rw [keeps_is, if_neg (by decide), if_pos rfl, pln_own, pln_among]
 simp [anyIn]
theorem pln_keep1 (nm : ByteArray) (set : Nat) : keepsB plnI ⟨1, nm, 1, 0, 0, nmN, []⟩ set = true := by
 rw [keeps_is, if_neg (by simp), if_neg (by simp), if_neg (by simp)]
theorem pln_fits3 : fitsF plnI plnL 3 = (true, -1) := by
 unfold fitsF
 rw [if_neg (by rw [pln_single 3 (by decide)]; decide)]
 have : badF plnI plnL 3 = none := by
  refine badF_none fun j hj => ?_
  have hj' : j < 3 := hj
  match j, hj' with
  | 0, _ => exact pln_keep1 nmA 3
  | 1, _ => exact pln_keep1 nmB 3
  | 2, _ => exact (pln_keep 3).trans (by decide)
 rw [this]
 rfl
theorem pln_fits1 : fitsF plnI plnL 1 = (false, 2) := by
 unfold fitsF
 rw [if_neg (by rw [pln_single 1 (by decide)]; decide)]
 have : badF plnI plnL 1 = some 2 := by
  refine badF_some (by decide) (fun j hj => ?_) ((pln_keep 1).trans (by decide))
  match j, hj with
  | 0, _ => exact pln_keep1 nmA 1
  | 1, _ => exact pln_keep1 nmB 1
 rw [this]
 rfl
theorem pln_need : needF plnI plnL = [2, 0] := by
 have e0 : needP plnI plnL 0 = [0, 0] := rfl
 have e1 : needP plnI plnL 1 = [0, 0] := by rw [needP, if_neg (by decide), e0]
 have e2 : needP plnI plnL 2 = [0, 0] := by rw [needP, if_neg (by decide), e1]
 show needP plnI plnL 3 = _
 rw [needP, if_pos (by decide), e2]
 show ([0, 0] : List Nat).set (ownN plnI ⟨2, nmA, 1, 0, 0, nmB, [(0, 1000000000)]⟩) (([0, 0] : List Nat).getD (ownN plnI ⟨2, nmA, 1, 0, 0, nmB, [(0, 1000000000)]⟩) 0 ||| (amS plnI nmB [(0, 1000000000)] &&& (18446744073709551615 - 2 ^ ownN plnI ⟨2, nmA, 1, 0, 0, nmB, [(0, 1000000000)]⟩))) = _
 unfold amS
 rw [pln_own, pln_among]
 decide
theorem pln_order3 : ordR plnI plnL 3 = .ok [1, 0] := by
 unfold ordR
 rw [pln_fits3, if_neg (by decide)]
 unfold ordF
 rw [pln_need]
 have : ordGo [2, 0] (itemsP 3 24).length (itemsP 3 24) 3 [] = some [1, 0] := by decide +kernel
 rw [this]
 rfl
theorem pln_order1 : ordR plnI plnL 1 = .error 13 := by
 unfold ordR
 rw [pln_fits1, if_pos rfl]
end
end Go.Proofs.YtpmpnbbihmgdpaaGreatDoor

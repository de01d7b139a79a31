/- The reference: what a rule makes of two ranges, the walk. -/
import Derived.Test.YtpmpnbbihmgdpaaGreatDoorSvTurns
import Derived.Test.YtpmpnbbihmgdpaaGreatDoorSvPieces
import Derived.Test.YtpmpnbbihmgdpaaGreatDoorPlSmall
import Derived.Laws.CopyOwn
import Derived.Deep.RegionLaw
import Derived.Laws.BitsLemmas
import Derived.Deep.RegionHeldLaw
set_option maxHeartbeats 4000000
set_option maxRecDepth 100000
namespace Go.Proofs.YtpmpnbbihmgdpaaGreatDoor
section
open Go.RowKit Sv
def ncells (l : List Nat) : List Value := l.map fun (n : Nat) => .int .i64 (n : Int)
def nv (l : List Nat) (i : Nat) : Nat := l.getD i 0
theorem nv_at (l : List Nat) (i : Nat) (h : i < l.length) : nv l i = l[i] := by unfold nv; simp [List.getD_eq_getElem?_getD, List.getElem?_eq_getElem h]
theorem ncells_length (l : List Nat) : (ncells l).length = l.length := by simp [ncells]
theorem ncells_append (a b : List Nat) : ncells (a ++ b) = ncells a ++ ncells b := by simp [ncells]
theorem ncells_at (l : List Nat) (i : Nat) (h : i < l.length) : (ncells l)[i]? = some (.int .i64 (nv l i : Int)) := by simp [ncells, h, nv_at]
structure NsAt (w : World) (v : Value) (l : List Nat) : Prop where
  form : ∃ a cap, v = .slice a l.length cap
  cells : ∀ i, i < l.length -> ∃ g cap, v = .slice (some ⟨g, 0, none⟩) l.length cap /\ g < w.heap.size /\ w.cell? ⟨g, i, none⟩ = some (.int .i64 (nv l i : Int))
theorem nsAt_nil (w : World) : NsAt w (.slice none 0 0) [] := ⟨⟨none, 0, rfl⟩, fun i h => by simp at h⟩
theorem NsAt.below {B : Nat} {w w' : World} {v : Value} {l : List Nat} (h : NsAt w v l) (hb : Below B w w') (hB : w.heap.size <= B) : NsAt w' v l :=
  ⟨h.form, fun i hi => by
    obtain ⟨g, cap, e, hg, c0⟩ := h.cells i hi
    exact ⟨g, cap, e, Nat.lt_of_lt_of_le hg hb.size, (hb.cell (p := ⟨g, i, none⟩) (by show g < B; omega)).trans c0⟩⟩
theorem NsAt.drew {w : World} {v : Value} {l : List Nat} (h : NsAt w v l) : NsAt w.drew v l := ⟨h.form, h.cells⟩
theorem nsAt_row {B : Nat} {w : World} {v : Value} {l : List Nat} (h : w.ownsRow B 3 1 v l.length (ncells l)) : NsAt w v l := by
  rcases h.2 with ⟨e, e0⟩ | ⟨g, cap, cur, e, hB, hg, hn, hm, hsz, htake⟩
  · exact ⟨⟨none, 0, by rw [e, e0]⟩, fun i hi => by omega⟩
  · refine ⟨⟨_, _, e⟩, fun i hi => ?_⟩
    have hlt : g < w.heap.size := (h.lt g (by rw [e]; rfl)).2
    have cell : w.cell? ⟨g, i, none⟩ = (ncells l)[i]? := by
      rw [<- htake, List.getElem?_take, if_pos (by omega)]
      simp [World.cell?, hg]
    exact ⟨g, cap, e, hlt, cell.trans (ncells_at l i hi)⟩
theorem nsrow_form {B n : Nat} {w : World} {v : Value} {t : TypeId} {cs : List Value} (h : w.ownsRow B t 1 v n cs) : ∃ a c, v = .slice a n c := by
  rcases h.2 with ⟨e, e0⟩ | ⟨g, cap, cur, e, -⟩
  · exact ⟨none, 0, by rw [e, e0]⟩
  · exact ⟨_, _, e⟩
def NsOut (w : World) (l : List Nat) (e : Ending) (w' : World) : Prop := ∃ a c, e = .returned (.slice a l.length c) /\ NsAt w' (.slice a l.length c) l /\ (∀ g, (Value.slice a l.length c).ownBlock = some g -> w.heap.size <= g) /\ Below w.heap.size w w'
theorem in_step {l : List Nat} {n k : Nat} (hk : k < l.length) (h : nv l k <= n) : inP (l.drop k) n = !inP (l.drop (k + 1)) n := by
  rw [List.drop_eq_getElem_cons hk, inP, <- nv_at l k hk, if_pos h]
theorem in_stop {l : List Nat} {n k : Nat} (hk : k < l.length) (h : ¬ nv l k <= n) : inP (l.drop k) n = false := by
  rw [List.drop_eq_getElem_cons hk, inP, <- nv_at l k hk, if_neg h]
theorem rem2 (k : Nat) : ((k : Int) % 2 == 1) = (k % 2 == 1) := by
  rw [show (k : Int) % 2 = ((k % 2 : Nat) : Int) by omega]
  rcases Nat.mod_two_eq_zero_or_one k with e | e <;> rw [e] <;> rfl
theorem odd_succ (k : Nat) (b : Bool) : (b ^^ (k % 2 == 1)) = ((!b) ^^ ((k + 1) % 2 == 1)) := by
  rcases Nat.mod_two_eq_zero_or_one k with e | e
  · have : (k + 1) % 2 = 1 := by omega
    rw [e, this]; cases b <;> rfl
  · have : (k + 1) % 2 = 0 := by omega
    rw [e, this]; cases b <;> rfl
theorem in_any (l : List Nat) (n : Nat) (v : Value) (w : World) (hv : NsAt w v l) (hlen : l.length <= 1000000000) :
    Calls Tryz.prog 169 #[v, .int .i64 (n : Int)] w fun e w' => e = .returned (.bool (inP l n)) /\ w' = w := by
  obtain ⟨a, cap, rfl⟩ := hv.form
  have HV := Lib.hid hv
  clear hv
  go_enter Tryz.func169, Tryz.ntmps169
  go_wp2_with fail
  go_loopw [5] (fun kV wr => ∃ k : Nat, k <= l.length /\ kV = .int .i64 (k : Int) /\ (inP (l.drop k) n ^^ (k % 2 == 1)) = inP l n /\ wr = w) (fun kV _ => l.length - (intOf kV).toNat)
  case atStart => exact ⟨0, Nat.zero_le _, rfl, by simp, rfl⟩
  case round =>
    obtain ⟨k, hk, rfl, hres, rfl⟩ := hrel
    have HR := Lib.hid hres
    clear hres
    by_cases hlt : k < l.length
    · obtain ⟨g, cap', e1, hg, c0⟩ := HV.out.cells k hlt
      simp at e1
      obtain ⟨rfl, rfl⟩ := e1
      by_cases hle : nv l k <= n
      · have hres := HR.out
        rw [in_step hlt hle, odd_succ, Bool.not_not] at hres
        have HRS := Lib.hid hres
        clear hres HR
        generalize nv l k = A at *
        go_wp2
        go_roundw
        case rel => exact ⟨k + 1, by omega, by go_num, HRS.out, trivial⟩
        case measure => simp [intOf]; omega
      · have hres := HR.out
        rw [in_stop hlt hle, Bool.false_xor] at hres
        have hr2 := rem2 k
        rw [hres] at hr2
        have HRS := Lib.hid hr2
        clear hres HR hr2
        generalize nv l k = A at *
        go_wp2
        go_ret
        exact ⟨congrArg (fun b => Ending.returned (.bool b)) HRS.out, rfl⟩
    · obtain rfl : k = l.length := by omega
      have hres := HR.out
      rw [List.drop_length, inP, Bool.false_xor] at hres
      have hr2 := rem2 l.length
      rw [hres] at hr2
      have HRS := Lib.hid hr2
      clear hres HR hr2
      go_wp2
      go_ret
      exact ⟨congrArg (fun b => Ending.returned (.bool b)) HRS.out, rfl⟩
theorem rrow_any (x y : Nat) (w : World) : Calls Tryz.prog 54 #[.int .i64 (x : Int), .int .i64 (y : Int)] w (NsOut w (tp (rowF x y))) := by
  rw [tp_row]
  by_cases h : x < y
  · rw [if_pos h]
    have h1 : ¬ (y : Int) <= (x : Int) := by omega
    clear h
    go_enter Tryz.func54, Tryz.ntmps54
    go_wp2
    go_ret
    refine ⟨_, _, rfl, ⟨⟨_, _, rfl⟩, fun i hi => ⟨w.heap.size, 2, rfl, by simp, ?_⟩⟩, fun g hg => by simp [Value.ownBlock] at hg; omega, (Below.refl _ w).alloc (Nat.le_refl _) _⟩
    match i, hi with
    | 0, _ => simp [nv]
    | 1, _ => simp [nv]
  · rw [if_neg h]
    have h1 : (y : Int) <= (x : Int) := by omega
    clear h
    go_enter Tryz.func54, Tryz.ntmps54
    go_wp2
    go_ret
    exact ⟨none, 0, rfl, nsAt_nil _, fun g hg => by simp [Value.ownBlock] at hg, Below.refl _ _⟩
theorem rnum_any (a b c : Nat) (ha : a <= 1000) (hb : b <= 1000) (hc : c <= 1000) (w : World) :
    Calls Tryz.prog 109 #[.agg #[.int .i64 (a : Int), .int .i64 (b : Int), .int .i64 (c : Int)]] w fun e w' => e = .returned (.int .i64 (((a * 1000 + b) * 1000 + c : Nat) : Int)) /\ Below w.heap.size w w' := by
  have hB : Hid (Below w.heap.size w (w.alloc (.cells #[.int .i64 (a : Int), .int .i64 (b : Int), .int .i64 (c : Int)] 44))) := (Below.refl _ w).alloc (Nat.le_refl _) _
  have HN : Hid ((a : Int) * 1000000 + (b : Int) * 1000 + (c : Int) = (((a * 1000 + b) * 1000 + c : Nat) : Int)) := by show _ = _; omega
  go_enter Tryz.func109, Tryz.ntmps109
  go_wp2
  go_ret
  exact ⟨congrArg (fun z => Ending.returned (Value.int .i64 z)) HN.out, hB.out⟩
end
section
open Go.RowKit Sv
theorem infoIntN : (Tryz.prog.info? 3).map (fun i => (i.zero, i.size, i.bytes)) = some (some (.int .i64 0), 1, 8) := by kernel_rfl
theorem sizeIntN : (Tryz.prog.info? 3).map (·.size) = some 1 := by kernel_rfl
theorem cell_one_newN (w : World) (A : Value) (t : TypeId) : ∀ (j : Nat) (u : Value), [A][j]? = some u -> (w.alloc (.cells #[A] t)).cell? (Addr.add ⟨w.heap.size, 0, none⟩ j) = some u := by
  intro j u h
  match j, h with
  | 0, h => simp at h; subst h; simp [Addr.add]
  | j + 1, h => simp at h
def rowsX (a b : List Nat) : Nat -> List Nat
  | 0 => [0, ALL]
  | 1 => a
  | _ => b
def accX (a b : List Nat) : Nat -> List Nat
  | 0 => []
  | j + 1 => allP (accX a b j) (rowsX a b j)
theorem allP_snoc (acc l : List Nat) (k : Nat) (hk : k < l.length) : allP acc (l.take (k + 1)) = insP (allP acc (l.take k)) (nv l k) := by
  unfold allP
  rw [List.take_succ_eq_append_getElem hk, List.foldl_append, List.foldl_cons, List.foldl_nil, nv_at l k hk]
theorem allP_len (l acc : List Nat) : (allP acc l).length = acc.length + l.length := by
  have hi : ∀ (l : List Nat) (n : Nat), (insP l n).length = l.length + 1 := fun l n => by
    unfold insP; rw [List.length_append, List.length_cons, List.length_take, List.length_drop]; have := pos_le l n l.length; omega
  induction l generalizing acc with
  | nil => rfl
  | cons x l ih => show (allP (insP acc x) l).length = _; rw [ih, hi, List.length_cons]; omega
theorem accX_len (a b : List Nat) (j : Nat) (hj : j <= 3) : (accX a b j).length <= a.length + b.length + 2 := by
  match j, hj with
  | 0, _ => simp [accX]
  | 1, _ => simp [accX, allP_len, rowsX]
  | 2, _ => simp [accX, allP_len, rowsX]; omega
  | 3, _ => simp [accX, allP_len, rowsX]; omega
theorem accX_len2 (a b : List Nat) (j k : Nat) (hj : j < 3) : (allP (accX a b j) ((rowsX a b j).take k)).length <= a.length + b.length + 2 := by
  have h := accX_len a b (j + 1) hj
  rw [accX, allP_len] at h
  rw [allP_len, List.length_take]
  omega
theorem ins_row {acc : List Nat} {n i : Nat} {cur : List Value} (hi : i <= acc.length) (hc : cur.take (acc.length + 1) = ncells acc ++ [.int .i64 0]) :
    ((splice cur (i + 1) ((ncells acc).drop i)).set i (.int .i64 (n : Int))).take (acc.length + 1) = ncells (acc.take i ++ n :: acc.drop i) := by
  have hlen : acc.length + 1 <= cur.length := by
    have := congrArg List.length hc
    rw [List.length_take, List.length_append, ncells_length, List.length_singleton] at this
    omega
  apply List.ext_getElem?
  intro j
  have hcj : ∀ j, j < acc.length + 1 -> cur[j]? = (ncells acc ++ [.int .i64 0])[j]? := fun j hj => by
    rw [<- hc, List.getElem?_take, if_pos hj]
  by_cases hj : j < acc.length + 1
  · rw [List.getElem?_take, if_pos hj]
    unfold splice
    rw [List.getElem?_set]
    have hdl : ((ncells acc).drop i).length = acc.length - i := by rw [List.length_drop, ncells_length]
    by_cases hij : i = j
    · subst hij
      rw [if_pos rfl, if_pos (by simp; omega)]
      unfold ncells
      rw [List.getElem?_map, List.getElem?_append_right (by rw [List.length_take]; omega)]
      rw [List.length_take, show i - min i acc.length = 0 by omega]
      rfl
    · rw [if_neg hij]
      by_cases hlt : j < i
      · rw [List.getElem?_append_left (by rw [List.length_take]; omega), List.getElem?_take, if_pos (by omega), hcj j hj, List.getElem?_append_left (by rw [ncells_length]; omega)]
        unfold ncells
        rw [List.getElem?_map, List.getElem?_map, List.getElem?_append_left (by rw [List.length_take]; omega), List.getElem?_take, if_pos hlt]
      · rw [List.getElem?_append_right (by rw [List.length_take]; omega), List.length_take, show min (i + 1) cur.length = i + 1 by omega, List.getElem?_append_left (by rw [hdl]; omega), List.getElem?_drop]
        unfold ncells
        rw [List.getElem?_map, List.getElem?_map, List.getElem?_append_right (by rw [List.length_take]; omega), List.length_take, show j - min i acc.length = (j - i - 1) + 1 by omega, List.getElem?_cons_succ, List.getElem?_drop]
        congr 2
  · rw [List.getElem?_take, if_neg hj, List.getElem?_eq_none]
    rw [ncells_length, List.length_append, List.length_cons, List.length_take, List.length_drop]
    omega
theorem ins_owns {w4 : World} {B g cap i n : Nat} {acc : List Nat} {cur : List Value} (hi : i <= acc.length) (hB : B <= g) (hnc : acc.length + 1 <= cap) (hmx : cap <= maxLen) (hsz : cur.length = cap) (htk : cur.take (acc.length + 1) = ncells acc ++ [.int .i64 0])
    (h4 : w4.heap[g]? = some (.cells (splice cur (i + 1) ((ncells acc).drop i)).toArray 3 (0, 0))) :
    (∃ u, w4.cell? ⟨g, i, none⟩ = some u) /\ w4.frozen? ⟨g, i, none⟩ = false /\ (w4.setCell ⟨g, i, none⟩ (.int .i64 (n : Int))).ownsRow B 3 1 (.slice (some ⟨g, 0, none⟩) (acc.length + 1) cap) (acc.length + 1) (ncells (acc.take i ++ n :: acc.drop i)) := by
  have k : Blk w4 g 3 (splice cur (i + 1) ((ncells acc).drop i)).toArray := h4
  have hdl : ((ncells acc).drop i).length = acc.length - i := by rw [List.length_drop, ncells_length]
  have hsl : (splice cur (i + 1) ((ncells acc).drop i)).length = cap := by rw [length_splice _ _ _ (by rw [hdl]; omega), hsz]
  refine ⟨?_, k.frozen i, ?_, .inr ⟨g, cap, _, rfl, hB, k.set (i := i), hnc, hmx, ?_, ?_⟩⟩
  · rw [k.cell i]
    exact ⟨_, by rw [List.getElem?_toArray, List.getElem?_eq_getElem (by omega)]⟩
  · rw [ncells_length, List.length_append, List.length_cons, List.length_take, List.length_drop]; omega
  · rw [Array.size_setIfInBounds, List.size_toArray, hsl, Nat.mul_one]
  · rw [Array.toList_setIfInBounds, Nat.mul_one]
    exact ins_row hi htk
theorem turns_len (f : Nat -> Bool) (is : Bool) (l : List Nat) : (turnsF f is l).length <= l.length := by
  induction l generalizing is with
  | nil => exact Nat.le_refl _
  | cons n r ih =>
    unfold turnsF
    split
    · have := ih is; rw [List.length_cons]; omega
    · have := ih (f n); rw [List.length_cons, List.length_cons]; omega
theorem turns_same {f : Nat -> Bool} {is : Bool} {l : List Nat} {k : Nat} (hk : k < l.length) (h : f (nv l k) = is) : turnsF f is (l.drop k) = turnsF f is (l.drop (k + 1)) := by
  rw [List.drop_eq_getElem_cons hk, turnsF, <- nv_at l k hk, if_pos h]
theorem turns_turn {f : Nat -> Bool} {is : Bool} {l : List Nat} {k : Nat} (hk : k < l.length) (h : ¬ f (nv l k) = is) : turnsF f is (l.drop k) = nv l k :: turnsF f (f (nv l k)) (l.drop (k + 1)) := by
  rw [List.drop_eq_getElem_cons hk, turnsF, <- nv_at l k hk, if_neg h]
theorem rowsX_len (a b : List Nat) (hla : a.length <= 1000000000) (hlb : b.length <= 1000000000) : ∀ j, (rowsX a b j).length <= 1000000000
  | 0 => Nat.le_of_ble_eq_true rfl
  | 1 => hla
  | _ + 2 => hlb
theorem rows_facts (a b : List Nat) (aa ab : Option Addr) (ca cb : Nat) (w W0 : World) (hW0 : (w.alloc (.cells #[.int .i64 0, .int .i64 1000000000] 3)).alloc (.cells #[.slice (some ⟨w.heap.size, 0, none⟩) 2 2, .slice aa a.length ca, .slice ab b.length cb] 47) = W0)
    (HVA : NsAt w (.slice aa a.length ca) a) (HVB : NsAt w (.slice ab b.length cb) b) :
    Below w.heap.size w W0 /\ (∀ j, j < 3 -> ∃ x c, ∀ W, Below W0.heap.size W0 W -> W.cell? ⟨w.heap.size + 1, j, none⟩ = some (.slice x (rowsX a b j).length c) /\ NsAt W (.slice x (rowsX a b j).length c) (rowsX a b j)) := by
  have HB0 : Below w.heap.size w W0 := by rw [<- hW0]; exact ((Below.refl _ w).alloc (Nat.le_refl _) _).alloc (by simp) _
  refine ⟨HB0, fun j hj => ?_⟩
  have k0 : Blk W0 w.heap.size 3 #[.int .i64 0, .int .i64 1000000000] := by rw [<- hW0]; exact (Blk.new w 3 _).alloc _
  have k1 : Blk W0 (w.heap.size + 1) 47 #[.slice (some ⟨w.heap.size, 0, none⟩) 2 2, .slice aa a.length ca, .slice ab b.length cb] := by rw [<- hW0]; have := Blk.new (w.alloc (.cells #[.int .i64 0, .int .i64 1000000000] 3)) 47 #[.slice (some ⟨w.heap.size, 0, none⟩) 2 2, .slice aa a.length ca, .slice ab b.length cb]; rw [World.size_alloc] at this; exact this
  match j, hj with
  | 0, _ => exact ⟨some ⟨w.heap.size, 0, none⟩, 2, fun W hb => ⟨(k1.below hb k1.lt).cell 0, ⟨_, _, rfl⟩, fun i hi => ⟨_, _, rfl, (k0.below hb k0.lt).lt, by
      match i, hi with
      | 0, _ => exact (k0.below hb k0.lt).cell 0
      | 1, _ => exact (k0.below hb k0.lt).cell 1⟩⟩⟩
  | 1, _ => exact ⟨aa, ca, fun W hb => ⟨(k1.below hb k1.lt).cell 1, HVA.below (HB0.trans (hb.mono HB0.size)) (Nat.le_refl _)⟩⟩
  | 2, _ => exact ⟨ab, cb, fun W hb => ⟨(k1.below hb k1.lt).cell 2, HVB.below (HB0.trans (hb.mono HB0.size)) (Nat.le_refl _)⟩⟩
theorem ins_facts {w3 : World} {B i n : Nat} {acc : List Nat} {v' : Value} (hi : i <= acc.length) (hown : w3.ownsRow B 3 1 v' (acc.length + 1) (ncells acc ++ [.int .i64 0])) :
    ∃ (g cap : Nat) (cur CS : List Value), v' = .slice (some ⟨g, 0, none⟩) (acc.length + 1) cap /\ B <= g /\ acc.length + 1 <= cap /\ w3.heap[g]? = some (.cells cur.toArray 3 (0, 0)) /\
      (∀ w4 : World, w4.heap[g]? = some (.cells (splice cur (i + 1) CS).toArray 3 (0, 0)) -> (∃ u, w4.cell? ⟨g, i, none⟩ = some u) /\ w4.frozen? ⟨g, i, none⟩ = false /\ (w4.setCell ⟨g, i, none⟩ (.int .i64 (n : Int))).ownsRow B 3 1 (.slice (some ⟨g, 0, none⟩) (acc.length + 1) cap) (acc.length + 1) (ncells (acc.take i ++ n :: acc.drop i))) /\
      (∀ j v, CS[j]? = some v -> w3.cell? ⟨g, i + j, none⟩ = some v) /\ (∀ v ∈ CS, v.oneCell' = true) /\ CS.length = Nat.min (acc.length + 1 - i) (acc.length + 1 - (i + 1)) /\ (i + 1) + CS.length <= cur.length := by
  rcases hown.2 with ⟨_, h0'⟩ | ⟨g, cap, cur, rfl, hBg, hg, hnc, hmx, hsz, htk⟩
  · exact absurd h0' (by simp)
  have hdl : ((ncells acc).drop i).length = acc.length - i := by rw [List.length_drop, ncells_length]
  have hsz' : cur.toList.length = cap := by simpa using hsz
  refine ⟨g, cap, cur.toList, (ncells acc).drop i, rfl, hBg, hnc, hg, fun w4 h4 => ins_owns hi hBg hnc hmx hsz' (by simpa using htk) h4, fun j v hv => ?_, fun v hv => ?_, ?_, ?_⟩
  · have hj : i + j < acc.length := by have := (List.getElem?_eq_some_iff.1 hv).1; rw [List.length_drop, ncells_length] at this; omega
    rw [(show Blk w3 g 3 cur from hg).cell, <- hv, List.getElem?_drop, <- Array.getElem?_toList, show cur.toList[i + j]? = (cur.toList.take ((acc.length + 1) * 1))[i + j]? by rw [List.getElem?_take, if_pos (by omega)], htk, List.getElem?_append_left (by rw [ncells_length]; omega)]
  · obtain ⟨x, _, rfl⟩ := List.mem_map.1 (List.mem_of_mem_drop hv); rfl
  · rw [hdl]; show _ = min _ _; omega
  · rw [hdl, hsz']; omega
end
section
open Go.RowKit Sv
theorem mix_any (a b : List Nat) (va vb : Value) (F : Nat) (rule : Bool -> Bool -> Bool) (w : World) (hva : NsAt w va a) (hvb : NsAt w vb b) (hla : a.length <= 1000000000) (hlb : b.length <= 1000000000)
    (hent : ∀ args w, (callFunc F args).run Tryz.prog w = .ok (.enter F args) w)
    (hrule : ∀ x y W, Calls Tryz.prog F #[.bool x, .bool y] W fun e w' => e = .returned (.bool (rule x y)) /\ w' = W) :
    Calls Tryz.prog 111 #[va, vb, .func (.func F) #[] #[]] w (NsOut w (mixF a b rule)) := by
  obtain ⟨i0, hin, hz0, hz1, hz2⟩ := info_parts infoIntN
  obtain ⟨aa, ca, rfl⟩ := hva.form
  obtain ⟨ab, cb, rfl⟩ := hvb.form
  have HVA := Lib.hid hva
  have HVB := Lib.hid hvb
  have HR := Lib.hid hrule
  clear hva hvb hrule
  go_enter Tryz.func111, Tryz.ntmps111
  go_wp2_with fail
  obtain ⟨W0, hW0⟩ : ∃ W0, (w.alloc (.cells #[.int .i64 0, .int .i64 1000000000] 3)).alloc (.cells #[.slice (some ⟨w.heap.size, 0, none⟩) 2 2, .slice aa a.length ca, .slice ab b.length cb] 47) = W0 := ⟨_, rfl⟩
  obtain ⟨hB0, hX⟩ := rows_facts a b aa ab ca cb w W0 hW0 HVA.out HVB.out
  have HB0 := Lib.hid hB0
  have HX := Lib.hid hX
  have HVA0 : Hid (∀ W, Below W0.heap.size W0 W -> NsAt W (.slice aa a.length ca) a) := fun W hb => HVA.out.below (HB0.out.trans (hb.mono HB0.out.size)) (Nat.le_refl _)
  have HVB0 : Hid (∀ W, Below W0.heap.size W0 W -> NsAt W (.slice ab b.length cb) b) := fun W hb => HVB.out.below (HB0.out.trans (hb.mono HB0.out.size)) (Nat.le_refl _)
  rw [hW0]
  clear hW0 HVA HVB hB0 hX
  go_loopw [7, 23] (fun aV jV wr => ∃ j : Nat, j <= 3 /\ jV = .int .i64 (j : Int) /\ wr.ownsRow W0.heap.size 3 1 aV (accX a b j).length (ncells (accX a b j)) /\ Below W0.heap.size W0 wr) (fun _ jV _ => 3 - (intOf jV).toNat)
  case atStart => exact ⟨0, Nat.zero_le _, rfl, World.ownsRow_nil _ _ _ _, Below.refl _ _⟩
  case round =>
    obtain ⟨j, hj, rfl, hrow, hbr⟩ := hrel
    obtain ⟨ra, rc, rfl⟩ := nsrow_form hrow
    have HROW := Lib.hid hrow
    have HBR := Lib.hid hbr
    have hwsz := hbr.size
    clear hrow hbr
    by_cases hlt : j < 3
    · obtain ⟨x, c, hx⟩ := HX.out j hlt
      have hxl : (rowsX a b j).length <= 1000000000 := rowsX_len a b hla hlb j
      have hal : ∀ k, (allP (accX a b j) ((rowsX a b j).take k)).length <= 2000000002 := fun k => by have := accX_len2 a b j k hlt; omega
      have HJ : Hid (accX a b (j + 1) = allP (accX a b j) (rowsX a b j)) := rfl
      have HXJ := Lib.hid hx
      have HAL := Lib.hid hal
      have cj := (hx wr HBR.out).1
      clear hx hal
      generalize hA0 : accX a b j = acc0 at *
      generalize hXX : rowsX a b j = X at *
      go_wp2_with fail
      rw [show decide ((j : Int) < 3) = true from decide_eq_true (by omega)]
      go_loopw [7, 29] (fun aV kV wr => ∃ k : Nat, k <= X.length /\ kV = .int .i64 (k : Int) /\ wr.ownsRow W0.heap.size 3 1 aV (allP acc0 (X.take k)).length (ncells (allP acc0 (X.take k))) /\ Below W0.heap.size W0 wr) (fun _ kV _ => X.length - (intOf kV).toNat)
      case atStart => exact ⟨0, Nat.zero_le _, rfl, by simpa [allP] using HROW.out, HBR.out⟩
      case round =>
        clear HROW HBR hwsz cj
        obtain ⟨k, hk, rfl, hrow, hbr⟩ := hrel
        obtain ⟨ra, rc, rfl⟩ := nsrow_form hrow
        have HROW := Lib.hid hrow
        have HBR := Lib.hid hbr
        have hwsz := hbr.size
        clear hrow hbr
        by_cases hlt2 : k < X.length
        · obtain ⟨g1, c1, e1, hg1, cell1'⟩ := (HXJ.out wr HBR.out).2.cells k hlt2
          simp at e1
          obtain ⟨rfl, rfl⟩ := e1
          have hal2 := HAL.out k
          have HSN := Lib.hid (allP_snoc acc0 X k hlt2)
          generalize hacc : allP acc0 (X.take k) = acc at *
          generalize hnn : nv X k = n at *
          go_wp2_with fail
          try rw [show decide ((k : Int) < (X.length : Int)) = true from decide_eq_true (by omega)]
          go_loopw [12] (fun iV wr3 => ∃ i : Nat, i <= acc.length /\ iV = .int .i64 (i : Int) /\ posF acc n acc.length = posF acc n i /\ wr3 = wr) (fun iV _ => (intOf iV).toNat)
          case atStart => exact ⟨acc.length, Nat.le_refl _, rfl, rfl, rfl⟩
          case round =>
            obtain ⟨i, hi, rfl, hp, rfl⟩ := hrel
            by_cases hi0 : i = 0
            · have HP : Hid (posF acc n acc.length = i) := by rw [hi0] at hp ⊢; exact hp
              have hi0' : ¬ (0 : Int) < (i : Int) := by omega
              clear hp hi0
              go_wp2_with (at_builtin; refine wpList_append_own _ rfl _ _ 31 rfl W0.heap.size 3 i0 (.int .i64 0) 1 8 Tryz.underlying31 hin hz0 hz1 hz2 rfl (by decide) _ _ _ rfl (HROW.out.alloc _) ⟨wr.heap.size, 0, none⟩ 1 1 [.int .i64 0] rfl rfl (cell_one_newN _ _ _) ?c2 ?c3 ?c4 ?c5 ?_)
              case c2 => first | rfl | (intro u hu; simp at hu; subst hu; rfl)
              case c3 => unfold maxLen; omega
              case c4 => omega
              case c5 => first | omega | (simp; omega)
              intro v' w3 hown hgrow _
              have hb3 : Below W0.heap.size W0 w3 := (HBR.out.alloc hwsz _).grown hgrow (by simp; omega) (fun j hj => (HROW.out.lt j hj).1)
              obtain ⟨g, cap, CUR, CS, rfl, hBg, hnc, hHG, hHINS, hHCELL, hHONE, hHMN, hHFIT⟩ := ins_facts (i := i) (n := n) hi hown
              obtain ⟨I1, hI1⟩ : ∃ I1 : Nat, I1 = i + 1 := ⟨_, rfl⟩
              rw [<- hI1] at hHINS hHMN hHFIT
              have hwr : IntKind.i64.wrap ((i : Int) + 1) = (I1 : Int) := by rw [hI1]; rw [IntKind.wrap_i64]; omega
              have hub : I1 <= acc.length + 1 := by omega
              have hubI : (I1 : Int) <= (acc.length : Int) + 1 := by omega
              have hiI : (i : Int) <= (acc.length : Int) + 1 := by omega
              have HG := Lib.hid hHG
              have HINS := Lib.hid hHINS
              have HCELL := Lib.hid hHCELL
              have HONE := Lib.hid hHONE
              have HMN := Lib.hid hHMN
              have HFIT := Lib.hid hHFIT
              have HB3 := Lib.hid hb3
              have HRP2 : Hid (allP acc0 (X.take (k + 1)) = acc.take i ++ n :: acc.drop i) := by show _ = _; rw [HSN.out]; unfold insP; rw [HP.out]
              have HL2 : Hid ((acc.take i ++ n :: acc.drop i).length = acc.length + 1) := by show _ = _; rw [List.length_append, List.length_cons, List.length_take, List.length_drop]; omega
              have hBd : Hid (Below W0.heap.size W0 w3.drew) := HB3.out.drew
              clear hown hgrow hb3 HSN HP HROW HBR hHG hHINS hHCELL hHONE hHMN hHFIT
              by_cases hend : i < acc.length
              · have hc1 : ¬ cap = I1 := by omega
                have hc2 : ¬ cap = i := by omega
                have hpos : Hid (∀ (dp sp : Option Addr), dp = some ⟨g, I1, none⟩ -> sp = some ⟨g, i, none⟩ -> 0 < CS.length -> dp = some ⟨g, I1, none⟩ /\ ∃ ad : Addr, sp = some ad /\ ∀ j v, CS[j]? = some v -> w3.drew.cell? (ad.add j) = some v) := fun _ _ h1 h2 _ => ⟨h1, ⟨g, i, none⟩, h2, fun j v hv => by have h7 := HCELL.out j v hv; show w3.cell? (Addr.add ⟨g, i, none⟩ j) = _; rw [<- h7]; congr 1; unfold Addr.add; split <;> simp_all⟩
                clear hI1
                go_wp2_with fail
                go_region_held_law (fun _ => True) (exact trivial) (first | (refine step_copy_splice rfl (.tmp 54) (.tmp 57) 31 31 rfl 3 Tryz.underlying31 sizeIntN (some ⟨g, I1, none⟩) (some ⟨g, i, none⟩) (acc.length + 1 - I1) (cap - I1) (acc.length + 1 - i) (cap - i) rfl rfl g I1 CUR 3 HG.out CS HMN.out (hpos.out _ _ rfl rfl) HFIT.out HONE.out W0.heap.size W0 hBd.out hBg ?_; intro w4 hg4 hb4))
                obtain ⟨⟨u4, q1⟩, q2, q3⟩ := HINS.out w4 hg4.out
                have HQ3 := Lib.hid q3
                have HB5 : Hid (Below W0.heap.size W0 (w4.setCell ⟨g, i, none⟩ (.int .i64 (n : Int)))) := hb4.setCell (p := ⟨g, i, none⟩) hBg _
                clear q3 hg4 hb4 HINS HG HB3 HMN HFIT HONE HCELL hpos hBd
                go_wp2
                go_roundw
                case rel => exact ⟨k + 1, by omega, by go_num, by rw [HRP2.out, HL2.out]; exact HQ3.out, HB5.out⟩
                case measure => simp [intOf]; omega
              · have hpos : Hid (∀ (dp sp : Option Addr), 0 < CS.length -> dp = some ⟨g, I1, none⟩ /\ ∃ ad : Addr, sp = some ad /\ ∀ j v, CS[j]? = some v -> w3.drew.cell? (ad.add j) = some v) := fun _ _ h => by have h7 := HMN.out; rw [h7] at h; exact absurd h (by show ¬ 0 < min _ _; omega)
                have hc2 : ¬ cap = i := by omega
                by_cases hcc : cap = I1
                · subst hcc
                  have HMN0 : Hid (CS.length = Nat.min (acc.length + 1 - i) 0) := by show _ = _; rw [HMN.out, show acc.length + 1 - cap = 0 by omega]
                  clear hI1
                  go_wp2_with fail
                  go_region_held_law (fun _ => True) (exact trivial) (first | (refine step_copy_splice rfl (.tmp 54) (.tmp 57) 31 31 rfl 3 Tryz.underlying31 sizeIntN _ _ _ _ _ _ rfl rfl g cap CUR 3 HG.out CS HMN0.out (hpos.out _ _) HFIT.out HONE.out W0.heap.size W0 hBd.out hBg ?_; intro w4 hg4 hb4))
                  obtain ⟨⟨u4, q1⟩, q2, q3⟩ := HINS.out w4 hg4.out
                  have HQ3 := Lib.hid q3
                  have HB5 : Hid (Below W0.heap.size W0 (w4.setCell ⟨g, i, none⟩ (.int .i64 (n : Int)))) := hb4.setCell (p := ⟨g, i, none⟩) hBg _
                  clear q3 hg4 hb4 HINS HG HB3 HMN HFIT HONE HCELL hpos hBd
                  go_wp2
                  go_roundw
                  case rel => exact ⟨k + 1, by omega, by go_num, by rw [HRP2.out, HL2.out]; exact HQ3.out, HB5.out⟩
                  case measure => simp [intOf]; omega
                · clear hI1
                  go_wp2_with fail
                  go_region_held_law (fun _ => True) (exact trivial) (first | (refine step_copy_splice rfl (.tmp 54) (.tmp 57) 31 31 rfl 3 Tryz.underlying31 sizeIntN _ _ _ _ _ _ rfl rfl g I1 CUR 3 HG.out CS HMN.out (hpos.out _ _) HFIT.out HONE.out W0.heap.size W0 hBd.out hBg ?_; intro w4 hg4 hb4))
                  obtain ⟨⟨u4, q1⟩, q2, q3⟩ := HINS.out w4 hg4.out
                  have HQ3 := Lib.hid q3
                  have HB5 : Hid (Below W0.heap.size W0 (w4.setCell ⟨g, i, none⟩ (.int .i64 (n : Int)))) := hb4.setCell (p := ⟨g, i, none⟩) hBg _
                  clear q3 hg4 hb4 HINS HG HB3 HMN HFIT HONE HCELL hpos hBd
                  go_wp2
                  go_roundw
                  case rel => exact ⟨k + 1, by omega, by go_num, by rw [HRP2.out, HL2.out]; exact HQ3.out, HB5.out⟩
                  case measure => simp [intOf]; omega
            · obtain ⟨i', hi'⟩ : ∃ i', i' + 1 = i := ⟨i - 1, by omega⟩
              obtain ⟨g2, c2, e2, hg2, cell2'⟩ := (nsAt_row HROW.out).cells i' (by omega)
              simp at e2
              obtain ⟨rfl, rfl⟩ := e2
              have h1 : (i : Int) - 1 = (i' : Int) := by omega
              have hpi : 0 < i := by omega
              have hi2 : i' < acc.length := by omega
              have HI' := Lib.hid hi'
              rw [<- hi'] at hp
              clear hi'
              by_cases hgt : n < nv acc i'
              · have HPN : Hid (posF acc n acc.length = posF acc n i') := hp.trans (if_pos (show n < acc.getD i' 0 from hgt))
                clear hp
                generalize nv acc i' = Y at *
                go_wp2
                go_roundw
                case rel => exact ⟨i', by omega, by go_num, HPN.out, trivial⟩
                case measure => have := HI'.out; simp [intOf]; omega
              · have HP : Hid (posF acc n acc.length = i) := (hp.trans (if_neg (show ¬ n < acc.getD i' 0 from hgt))).trans HI'.out
                clear hp
                generalize nv acc i' = Y at *
                go_wp2_with (at_builtin; refine wpList_append_own _ rfl _ _ 31 rfl W0.heap.size 3 i0 (.int .i64 0) 1 8 Tryz.underlying31 hin hz0 hz1 hz2 rfl (by decide) _ _ _ rfl (HROW.out.alloc _) ⟨wr.heap.size, 0, none⟩ 1 1 [.int .i64 0] rfl rfl (cell_one_newN _ _ _) ?c2 ?c3 ?c4 ?c5 ?_)
                case c2 => first | rfl | (intro u hu; simp at hu; subst hu; rfl)
                case c3 => unfold maxLen; omega
                case c4 => omega
                case c5 => first | omega | (simp; omega)
                intro v' w3 hown hgrow _
                have hb3 : Below W0.heap.size W0 w3 := (HBR.out.alloc hwsz _).grown hgrow (by simp; omega) (fun j hj => (HROW.out.lt j hj).1)
                obtain ⟨g, cap, CUR, CS, rfl, hBg, hnc, hHG, hHINS, hHCELL, hHONE, hHMN, hHFIT⟩ := ins_facts (i := i) (n := n) hi hown
                obtain ⟨I1, hI1⟩ : ∃ I1 : Nat, I1 = i + 1 := ⟨_, rfl⟩
                rw [<- hI1] at hHINS hHMN hHFIT
                have hwr : IntKind.i64.wrap ((i : Int) + 1) = (I1 : Int) := by rw [hI1]; rw [IntKind.wrap_i64]; omega
                have hub : I1 <= acc.length + 1 := by omega
                have hubI : (I1 : Int) <= (acc.length : Int) + 1 := by omega
                have hiI : (i : Int) <= (acc.length : Int) + 1 := by omega
                have HG := Lib.hid hHG
                have HINS := Lib.hid hHINS
                have HCELL := Lib.hid hHCELL
                have HONE := Lib.hid hHONE
                have HMN := Lib.hid hHMN
                have HFIT := Lib.hid hHFIT
                have HB3 := Lib.hid hb3
                have HRP2 : Hid (allP acc0 (X.take (k + 1)) = acc.take i ++ n :: acc.drop i) := by show _ = _; rw [HSN.out]; unfold insP; rw [HP.out]
                have HL2 : Hid ((acc.take i ++ n :: acc.drop i).length = acc.length + 1) := by show _ = _; rw [List.length_append, List.length_cons, List.length_take, List.length_drop]; omega
                have hBd : Hid (Below W0.heap.size W0 w3.drew) := HB3.out.drew
                clear hown hgrow hb3 HSN HP HROW HBR hHG hHINS hHCELL hHONE hHMN hHFIT
                by_cases hend : i < acc.length
                · have hc1 : ¬ cap = I1 := by omega
                  have hc2 : ¬ cap = i := by omega
                  have hpos : Hid (∀ (dp sp : Option Addr), dp = some ⟨g, I1, none⟩ -> sp = some ⟨g, i, none⟩ -> 0 < CS.length -> dp = some ⟨g, I1, none⟩ /\ ∃ ad : Addr, sp = some ad /\ ∀ j v, CS[j]? = some v -> w3.drew.cell? (ad.add j) = some v) := fun _ _ h1 h2 _ => ⟨h1, ⟨g, i, none⟩, h2, fun j v hv => by have h7 := HCELL.out j v hv; show w3.cell? (Addr.add ⟨g, i, none⟩ j) = _; rw [<- h7]; congr 1; unfold Addr.add; split <;> simp_all⟩
                  clear hI1
                  go_wp2_with fail
                  go_region_held_law (fun _ => True) (exact trivial) (first | (refine step_copy_splice rfl (.tmp 54) (.tmp 57) 31 31 rfl 3 Tryz.underlying31 sizeIntN (some ⟨g, I1, none⟩) (some ⟨g, i, none⟩) (acc.length + 1 - I1) (cap - I1) (acc.length + 1 - i) (cap - i) rfl rfl g I1 CUR 3 HG.out CS HMN.out (hpos.out _ _ rfl rfl) HFIT.out HONE.out W0.heap.size W0 hBd.out hBg ?_; intro w4 hg4 hb4))
                  obtain ⟨⟨u4, q1⟩, q2, q3⟩ := HINS.out w4 hg4.out
                  have HQ3 := Lib.hid q3
                  have HB5 : Hid (Below W0.heap.size W0 (w4.setCell ⟨g, i, none⟩ (.int .i64 (n : Int)))) := hb4.setCell (p := ⟨g, i, none⟩) hBg _
                  clear q3 hg4 hb4 HINS HG HB3 HMN HFIT HONE HCELL hpos hBd
                  go_wp2
                  go_roundw
                  case rel => exact ⟨k + 1, by omega, by go_num, by rw [HRP2.out, HL2.out]; exact HQ3.out, HB5.out⟩
                  case measure => simp [intOf]; omega
                · have hpos : Hid (∀ (dp sp : Option Addr), 0 < CS.length -> dp = some ⟨g, I1, none⟩ /\ ∃ ad : Addr, sp = some ad /\ ∀ j v, CS[j]? = some v -> w3.drew.cell? (ad.add j) = some v) := fun _ _ h => by have h7 := HMN.out; rw [h7] at h; exact absurd h (by show ¬ 0 < min _ _; omega)
                  have hc2 : ¬ cap = i := by omega
                  by_cases hcc : cap = I1
                  · subst hcc
                    have HMN0 : Hid (CS.length = Nat.min (acc.length + 1 - i) 0) := by show _ = _; rw [HMN.out, show acc.length + 1 - cap = 0 by omega]
                    clear hI1
                    go_wp2_with fail
                    go_region_held_law (fun _ => True) (exact trivial) (first | (refine step_copy_splice rfl (.tmp 54) (.tmp 57) 31 31 rfl 3 Tryz.underlying31 sizeIntN _ _ _ _ _ _ rfl rfl g cap CUR 3 HG.out CS HMN0.out (hpos.out _ _) HFIT.out HONE.out W0.heap.size W0 hBd.out hBg ?_; intro w4 hg4 hb4))
                    obtain ⟨⟨u4, q1⟩, q2, q3⟩ := HINS.out w4 hg4.out
                    have HQ3 := Lib.hid q3
                    have HB5 : Hid (Below W0.heap.size W0 (w4.setCell ⟨g, i, none⟩ (.int .i64 (n : Int)))) := hb4.setCell (p := ⟨g, i, none⟩) hBg _
                    clear q3 hg4 hb4 HINS HG HB3 HMN HFIT HONE HCELL hpos hBd
                    go_wp2
                    go_roundw
                    case rel => exact ⟨k + 1, by omega, by go_num, by rw [HRP2.out, HL2.out]; exact HQ3.out, HB5.out⟩
                    case measure => simp [intOf]; omega
                  · clear hI1
                    go_wp2_with fail
                    go_region_held_law (fun _ => True) (exact trivial) (first | (refine step_copy_splice rfl (.tmp 54) (.tmp 57) 31 31 rfl 3 Tryz.underlying31 sizeIntN _ _ _ _ _ _ rfl rfl g I1 CUR 3 HG.out CS HMN.out (hpos.out _ _) HFIT.out HONE.out W0.heap.size W0 hBd.out hBg ?_; intro w4 hg4 hb4))
                    obtain ⟨⟨u4, q1⟩, q2, q3⟩ := HINS.out w4 hg4.out
                    have HQ3 := Lib.hid q3
                    have HB5 : Hid (Below W0.heap.size W0 (w4.setCell ⟨g, i, none⟩ (.int .i64 (n : Int)))) := hb4.setCell (p := ⟨g, i, none⟩) hBg _
                    clear q3 hg4 hb4 HINS HG HB3 HMN HFIT HONE HCELL hpos hBd
                    go_wp2
                    go_roundw
                    case rel => exact ⟨k + 1, by omega, by go_num, by rw [HRP2.out, HL2.out]; exact HQ3.out, HB5.out⟩
                    case measure => simp [intOf]; omega
        · obtain rfl : k = X.length := by omega
          have HROW2 : Hid (wr.ownsRow W0.heap.size 3 1 (.slice ra (accX a b (j + 1)).length rc) (accX a b (j + 1)).length (ncells (accX a b (j + 1)))) := by
            show World.ownsRow _ _ _ _ _ _ _
            rw [HJ.out]
            have h7 := HROW.out
            rw [List.take_length] at h7
            exact h7
          have HLL : Hid ((allP acc0 (X.take X.length)).length = (accX a b (j + 1)).length) := by show _ = _; rw [HJ.out, List.take_length]
          clear HROW
          rw [HLL.out]
          go_wp2
          go_roundw
          case rel => exact ⟨j + 1, by omega, by go_num, HROW2.out, HBR.out⟩
          case measure => simp [intOf]; omega
    · have e3 : accX a b j = placesF a b := by obtain rfl : j = 3 := by omega
                                               rfl
      rw [e3] at HROW ⊢
      clear e3
      have hpl : (placesF a b).length <= 2000000002 := by rw [places_len]; omega
      have HML : Hid (mixF a b rule = turnsF (ruleF a b rule) false (placesF a b)) := rfl
      have HRF : Hid (∀ n : Nat, ruleF a b rule n = (decide (n < ALL) && rule (inP a n) (inP b n))) := fun _ => rfl
      generalize hP : placesF a b = P at *
      generalize hM : mixF a b rule = M at *
      generalize hRU : ruleF a b rule = R at *
      rename World => w9
      have hML : M.length <= P.length := by rw [HML.out]; exact turns_len _ _ _
      go_wp2_with fail
      try rw [show decide ((j : Int) < 3) = false from decide_eq_false (by omega)]
      go_loopw [13, 14, 67] (fun oV sV kV wr => ∃ (k : Nat) (acc : List Nat) (is : Bool), k <= P.length /\ kV = .int .i64 (k : Int) /\ sV = .bool is /\ acc ++ turnsF R is (P.drop k) = M /\ wr.ownsRow w9.heap.size 3 1 oV acc.length (ncells acc) /\ Below w9.heap.size w9 wr) (fun _ _ kV _ => P.length - (intOf kV).toNat)
      case atStart => exact ⟨0, [], false, Nat.zero_le _, rfl, rfl, by rw [HML.out]; rfl, World.ownsRow_nil _ _ _ _, Below.refl _ _⟩
      case round =>
        obtain ⟨k, acc, is, hk, rfl, rfl, hres, hrow, hbz⟩ := hrel
        obtain ⟨oa, oc, rfl⟩ := nsrow_form hrow
        have hal : acc.length <= M.length := by rw [<- hres]; simp
        have HRZ := Lib.hid hrow
        have HBZ := Lib.hid hbz
        have HRS := Lib.hid hres
        have hwz := hbz.size
        clear hrow hbz hres
        by_cases hlt3 : k < P.length
        · obtain ⟨g3, c3, e3, hg3, cell3⟩ := (nsAt_row HROW.out).cells k hlt3
          simp at e3
          obtain ⟨rfl, rfl⟩ := e3
          have cz := (HBZ.out.cell (p := ⟨g3, k, none⟩) (by show g3 < _; omega)).trans cell3
          have hBW : Below W0.heap.size W0 wr := HBR.out.trans (HBZ.out.mono HBR.out.size)
          have HIA := Lib.hid (in_any a (nv P k) _ wr (HVA0.out wr hBW) (by omega))
          have HIB := Lib.hid (in_any b (nv P k) _ wr (HVB0.out wr hBW) (by omega))
          have HRU := Lib.hid (HR.out (inP a (nv P k)) (inP b (nv P k)) wr)
          have hRn := HRF.out (nv P k)
          clear hBW
          by_cases hall : nv P k < ALL
          · have hall' : (nv P k : Int) < 1000000000 := by unfold ALL at hall; omega
            rw [decide_eq_true hall, Bool.true_and] at hRn
            rw [<- hRn] at HRU
            by_cases hsame : R (nv P k) = is
            · have HRN : Hid (acc ++ turnsF R is (P.drop (k + 1)) = M) := by show _ = _; rw [<- turns_same hlt3 hsame]; exact HRS.out
              rw [hsame] at HRU
              clear hRn hsame HRS
              generalize inP a (nv P k) = X1 at *
              generalize inP b (nv P k) = X2 at *
              generalize nv P k = N at *
              go_wp2_with fail
              refine HIA.out.mono ?_
              rintro e w1 ⟨rfl, hw1⟩
              rw [hw1]
              clear hw1
              go_wp2_with fail
              refine HIB.out.mono ?_
              rintro e w1 ⟨rfl, hw1⟩
              rw [hw1]
              clear hw1
              go_wp2_with fail
              refine HRU.out.mono ?_
              rintro e w1 ⟨rfl, hw1⟩
              rw [hw1]
              clear hw1
              clear HIA HIB HRU
              go_wp2
              go_roundw
              case rel => exact ⟨k + 1, acc, is, by omega, by go_num, rfl, HRN.out, HRZ.out, HBZ.out⟩
              case measure => simp [intOf]; omega
            · have hte := turns_turn hlt3 hsame
              have HRN : Hid ((acc ++ [nv P k]) ++ turnsF R (R (nv P k)) (P.drop (k + 1)) = M) := by show _ = _; rw [List.append_assoc, List.singleton_append, <- hte]; exact HRS.out
              have hal2 : (acc ++ [nv P k]).length <= M.length := by rw [<- HRN.out]; simp
              simp at hal2
              cases is with
              | false =>
                have hRt : R (nv P k) = true := by simpa using hsame
                rw [hRt] at HRN HRU
                clear hRn hsame HRS hte hRt
                generalize inP a (nv P k) = X1 at *
                generalize inP b (nv P k) = X2 at *
                generalize nv P k = N at *
                go_wp2_with fail
                refine HIA.out.mono ?_
                rintro e w1 ⟨rfl, hw1⟩
                rw [hw1]
                clear hw1
                go_wp2_with fail
                refine HIB.out.mono ?_
                rintro e w1 ⟨rfl, hw1⟩
                rw [hw1]
                clear hw1
                go_wp2_with fail
                refine HRU.out.mono ?_
                rintro e w1 ⟨rfl, hw1⟩
                rw [hw1]
                clear hw1
                clear HIA HIB HRU
                go_wp2_with (at_builtin; refine wpList_append_own _ rfl _ _ 47 rfl w9.heap.size 3 i0 (.int .i64 0) 1 8 Tryz.underlying47 hin hz0 hz1 hz2 rfl (by decide) _ _ _ rfl (HRZ.out.alloc _) ⟨wr.heap.size, 0, none⟩ 1 1 [.int .i64 (N : Int)] rfl rfl (cell_one_newN _ _ _) ?d2 ?d3 ?d4 ?d5 ?_)
                case d2 => first | rfl | (intro u hu; simp at hu; subst hu; rfl)
                case d3 => unfold maxLen; omega
                case d4 => omega
                case d5 => first | omega | (simp; omega)
                intro v' w3 hown hgrow _
                have hb3 : Below w9.heap.size w9 w3 := (HBZ.out.alloc hwz _).grown hgrow (by simp; omega) (fun j hj => (HRZ.out.lt j hj).1)
                have e7 : (acc ++ [N]).length = acc.length + 1 := by simp
                have es : ncells (acc ++ [N]) = ncells acc ++ [.int .i64 (N : Int)] := ncells_append _ _
                rw [<- es, <- e7] at hown
                have HO7 := Lib.hid hown
                have HB7 := Lib.hid hb3
                clear hown hgrow hb3 e7 es
                go_wp2
                go_roundw
                case rel => exact ⟨k + 1, acc ++ [N], true, by omega, by go_num, rfl, HRN.out, HO7.out, HB7.out⟩
                case measure => simp [intOf]; omega
              | true =>
                have hRt : R (nv P k) = false := by simpa using hsame
                rw [hRt] at HRN HRU
                clear hRn hsame HRS hte hRt
                generalize inP a (nv P k) = X1 at *
                generalize inP b (nv P k) = X2 at *
                generalize nv P k = N at *
                go_wp2_with fail
                refine HIA.out.mono ?_
                rintro e w1 ⟨rfl, hw1⟩
                rw [hw1]
                clear hw1
                go_wp2_with fail
                refine HIB.out.mono ?_
                rintro e w1 ⟨rfl, hw1⟩
                rw [hw1]
                clear hw1
                go_wp2_with fail
                refine HRU.out.mono ?_
                rintro e w1 ⟨rfl, hw1⟩
                rw [hw1]
                clear hw1
                clear HIA HIB HRU
                go_wp2_with (at_builtin; refine wpList_append_own _ rfl _ _ 47 rfl w9.heap.size 3 i0 (.int .i64 0) 1 8 Tryz.underlying47 hin hz0 hz1 hz2 rfl (by decide) _ _ _ rfl (HRZ.out.alloc _) ⟨wr.heap.size, 0, none⟩ 1 1 [.int .i64 (N : Int)] rfl rfl (cell_one_newN _ _ _) ?d2 ?d3 ?d4 ?d5 ?_)
                case d2 => first | rfl | (intro u hu; simp at hu; subst hu; rfl)
                case d3 => unfold maxLen; omega
                case d4 => omega
                case d5 => first | omega | (simp; omega)
                intro v' w3 hown hgrow _
                have hb3 : Below w9.heap.size w9 w3 := (HBZ.out.alloc hwz _).grown hgrow (by simp; omega) (fun j hj => (HRZ.out.lt j hj).1)
                have e7 : (acc ++ [N]).length = acc.length + 1 := by simp
                have es : ncells (acc ++ [N]) = ncells acc ++ [.int .i64 (N : Int)] := ncells_append _ _
                rw [<- es, <- e7] at hown
                have HO7 := Lib.hid hown
                have HB7 := Lib.hid hb3
                clear hown hgrow hb3 e7 es
                go_wp2
                go_roundw
                case rel => exact ⟨k + 1, acc ++ [N], false, by omega, by go_num, rfl, HRN.out, HO7.out, HB7.out⟩
                case measure => simp [intOf]; omega
          · have hall' : ¬ (nv P k : Int) < 1000000000 := by unfold ALL at hall; omega
            rw [decide_eq_false hall, Bool.false_and] at hRn
            clear HIA HIB HRU
            cases is with
            | false =>
              have HRN : Hid (acc ++ turnsF R false (P.drop (k + 1)) = M) := by show _ = _; rw [<- turns_same hlt3 hRn]; exact HRS.out
              clear hRn HRS
              generalize nv P k = N at *
              go_wp2
              go_roundw
              case rel => exact ⟨k + 1, acc, false, by omega, by go_num, rfl, HRN.out, HRZ.out, HBZ.out⟩
              case measure => simp [intOf]; omega
            | true =>
              have hte := turns_turn (f := R) (is := true) hlt3 (by rw [hRn]; decide)
              rw [hRn] at hte
              have HRN : Hid ((acc ++ [nv P k]) ++ turnsF R false (P.drop (k + 1)) = M) := by show _ = _; rw [List.append_assoc, List.singleton_append, <- hte]; exact HRS.out
              have hal2 : (acc ++ [nv P k]).length <= M.length := by rw [<- HRN.out]; simp
              simp at hal2
              clear hRn HRS hte
              generalize nv P k = N at *
              go_wp2_with (at_builtin; refine wpList_append_own _ rfl _ _ 47 rfl w9.heap.size 3 i0 (.int .i64 0) 1 8 Tryz.underlying47 hin hz0 hz1 hz2 rfl (by decide) _ _ _ rfl (HRZ.out.alloc _) ⟨wr.heap.size, 0, none⟩ 1 1 [.int .i64 (N : Int)] rfl rfl (cell_one_newN _ _ _) ?d2 ?d3 ?d4 ?d5 ?_)
              case d2 => first | rfl | (intro u hu; simp at hu; subst hu; rfl)
              case d3 => unfold maxLen; omega
              case d4 => omega
              case d5 => first | omega | (simp; omega)
              intro v' w3 hown hgrow _
              have hb3 : Below w9.heap.size w9 w3 := (HBZ.out.alloc hwz _).grown hgrow (by simp; omega) (fun j hj => (HRZ.out.lt j hj).1)
              have e7 : (acc ++ [N]).length = acc.length + 1 := by simp
              have es : ncells (acc ++ [N]) = ncells acc ++ [.int .i64 (N : Int)] := ncells_append _ _
              rw [<- es, <- e7] at hown
              have HO7 := Lib.hid hown
              have HB7 := Lib.hid hb3
              clear hown hgrow hb3 e7 es
              go_wp2
              go_roundw
              case rel => exact ⟨k + 1, acc ++ [N], false, by omega, by go_num, rfl, HRN.out, HO7.out, HB7.out⟩
              case measure => simp [intOf]; omega
        · obtain rfl : k = P.length := by omega
          have hMA : acc = M := by rw [<- HRS.out, List.drop_length, turnsF, List.append_nil]
          have HOUT : Hid (NsOut w M (.returned (.slice oa acc.length oc)) wr) := by
            rw [<- hMA]
            exact ⟨oa, oc, rfl, nsAt_row HRZ.out, fun g hg => Nat.le_trans (Nat.le_trans HB0.out.size HBR.out.size) (HRZ.out.lt g hg).1, (HB0.out.trans (HBR.out.mono HB0.out.size)).trans (HBZ.out.mono (Nat.le_trans HB0.out.size HBR.out.size))⟩
          clear hMA HRS
          go_wp2
          go_ret
          exact HOUT.out
end
end Go.Proofs.YtpmpnbbihmgdpaaGreatDoor

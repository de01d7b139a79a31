/- Items in order: each once; the reference's insertion. Plain. -/
import Derived.Test.YtmhophccdfmngaaGreatDoorSvSpan
import Derived.Test.YtmhophccdfmngaaGreatDoorSvPart
import Derived.Test.YtmhophccdfmngaaGreatDoorSvCuts
import Derived.Laws.CopyOwn
import Derived.Deep.RegionLaw
import Derived.Laws.BitsLemmas
import Derived.Deep.RegionHeldLaw
import Derived.Test.YtmhophccdfmngaaGreatDoorSvWText
import Derived.Test.YtmhophccdfmngaaGreatDoorSvSplit
import Derived.Test.YtmhophccdfmngaaGreatDoorSvWord
import Derived.Lib.Replace
import Derived.Test.YtmhophccdfmngaaGreatDoorSvCmpG
import Derived.Test.YtmhophccdfmngaaGreatDoorCtName
import Derived.Test.YtmhophccdfmngaaGreatDoorCtLine
import Derived.Test.YtmhophccdfmngaaGreatDoorCtLines
import Derived.Test.YtmhophccdfmngaaGreatDoorSvTextI
import Derived.Lib.IndexBytes
import Derived.Test.YtmhophccdfmngaaGreatDoorCtCat
namespace Go.Proofs.YtmhophccdfmngaaGreatDoor.Sv
def tp : List Span -> List Nat
 | [] => []
 | s :: r => s.1 :: s.2 :: tp r
end Go.Proofs.YtmhophccdfmngaaGreatDoor.Sv
namespace Go.Proofs.YtmhophccdfmngaaGreatDoor
open Go.RowKit Sv
def nv (l : List Nat) (i : Nat) : Nat := l.getD i 0
structure NsAt (w : World) (v : Value) (l : List Nat) : Prop where
 form : ∃ a cap, v = .slice a l.length cap
 cells : ∀ i, i < l.length -> ∃ g cap, v = .slice (some ⟨g, 0, none⟩) l.length cap /\ g < w.heap.size /\ w.cell? ⟨g, i, none⟩ = some (.int .i64 (nv l i : Int))
theorem NsAt.below {B : Nat} {w w' : World} {v : Value} {l : List Nat} (h : NsAt w v l) (hb : Below B w w') (hB : w.heap.size <= B) : NsAt w' v l :=
 ⟨h.form, fun i hi => by
  obtain ⟨g, cap, e, hg, c0⟩ := h.cells i hi
  exact ⟨g, cap, e, Nat.lt_of_lt_of_le hg hb.size, (hb.cell (p := ⟨g, i, none⟩) (by show g < B; omega)).trans c0⟩⟩
theorem NsAt.drew {w : World} {v : Value} {l : List Nat} (h : NsAt w v l) : NsAt w.drew v l := ⟨h.form, h.cells⟩
end Go.Proofs.YtmhophccdfmngaaGreatDoor
namespace Go.Proofs.YtmhophccdfmngaaGreatDoor
open Go.RowKit Go.Shelf Sv
structure FineR (w : World) : Prop where
 c0 : w.cell? ⟨0, 0, none⟩ = some (.int .i64 0)
 c1 : w.cell? ⟨0, 1, none⟩ = some (.int .i64 (-1))
 lt : 0 < w.heap.size
theorem FineR.below {w w' : World} (h : FineR w) (hb : Below w.heap.size w w') : FineR w' := ⟨(hb.cell (p := ⟨0, 0, none⟩) h.lt).trans h.c0, (hb.cell (p := ⟨0, 1, none⟩) h.lt).trans h.c1, Nat.lt_of_lt_of_le h.lt hb.size⟩
end Go.Proofs.YtmhophccdfmngaaGreatDoor
namespace Go.Proofs.YtmhophccdfmngaaGreatDoor
open Sv
theorem lns_cut (s : ByteArray) : ∀ (f k : Nat), s.size <= k + f -> k <= s.size -> lnsF s f k = (cutB s ⟨#[10]⟩ f k).filter (fun x => decide (x.2.size ≠ 0)) := by
 intro f
 induction f with
 | zero =>
  intro k h1 h2
  obtain rfl : k = s.size := by omega
  simp [lnsF, cutB]
 | succ f ih =>
  intro k h1 h2
  have hL : (s.extract k s.size).data.toList = s.data.toList.drop k := ext_end s k
  have hsz : (s.extract k s.size).size = s.size - k := by simp [ByteArray.size_extract]
  rcases Nat.lt_or_ge k s.size with hk | hk
  ·rw [lnsF_step hk, cutB]
   by_cases hi : Lib.index (s.extract k s.size).data.toList [10] < 0
   ·have e : cutF (s.extract k s.size) 10 = (s.extract k s.size, ⟨#[]⟩) := by
     unfold cutF Lib.cut
     rw [if_neg (by omega)]
    rw [if_pos hi, e, lnsF_end (by simp only; omega)]
    by_cases h0 : (s.extract k s.size).size = 0
    ·omega
    ·simp only [if_neg h0, List.append_nil]
     rw [List.filter_cons, if_pos (decide_eq_true h0), List.filter_nil]
   ·obtain ⟨j, hj⟩ : ∃ j : Nat, Lib.index (s.extract k s.size).data.toList [10] = (j : Int) := ⟨(Lib.index (s.extract k s.size).data.toList [10]).toNat, by omega⟩
    have hroom := index_room (s.extract k s.size).data.toList [10] (by omega)
    rw [hj] at hroom
    have hlen : (s.extract k s.size).data.toList.length = s.size - k := by rw [Array.length_toList]; exact hsz
    simp only [List.length_cons, List.length_nil, Int.toNat_natCast] at hroom
    have e1 : (cutF (s.extract k s.size) 10).1 = s.extract k (k + j) := by
     unfold cutF Lib.cut
     rw [if_pos (by omega)]
     simp only
     rw [hj]
     refine ba_ext ?_
     simp only [Int.toNat_natCast]
     rw [hL, ext_list', List.take_drop]
    have e2 : (s.extract k (k + j)).size = j := by
     simp only [ByteArray.size_extract]
     omega
    rw [if_neg hi, e1, e2]
    simp only
    rw [hj]
    simp only [Int.toNat_natCast]
    rw [ih (k + j + 1) (by omega) (by omega)]
    show _ = List.filter _ (_ :: cutB s ⟨#[10]⟩ f (k + j + 1))
    rw [List.filter_cons]
    by_cases hj0 : j = 0
    ·rw [if_pos hj0, if_neg (by rw [e2]; simp [hj0])]; rfl
    ·rw [if_neg hj0, if_pos (by rw [e2]; simp [hj0])]; rfl
  ·obtain rfl : k = s.size := by omega
   rw [lnsF_end (Nat.le_refl _)]
   have he : (s.extract s.size s.size).data.toList = [] := by rw [hL]; simp
   rw [cutB]
   show [] = List.filter _ (if Lib.index (s.extract s.size s.size).data.toList [10] < 0 then _ else _)
   rw [he]
   have : Lib.index ([] : List UInt8) [10] < 0 := by decide
   rw [if_pos this]
   simp
end Go.Proofs.YtmhophccdfmngaaGreatDoor
namespace Go.Proofs.YtmhophccdfmngaaGreatDoor
open Go.RowKit Go.Shelf Sv
theorem cutF_none {s : ByteArray} {c : UInt8} (h : Lib.index s.data.toList [c] < 0) : cutF s c = (s, ⟨#[]⟩) := by
 unfold cutF Lib.cut
 rw [if_neg (by omega)]
end Go.Proofs.YtmhophccdfmngaaGreatDoor
namespace Go.Proofs.YtmhophccdfmngaaGreatDoor
open Sv Go.PlainAid
theorem cut_blank {p r : List UInt8} (h : (32 : UInt8) ∉ p) : cutF ⟨(p ++ 32 :: r).toArray⟩ 32 = (⟨p.toArray⟩, ⟨r.toArray⟩) := by
 unfold cutF Lib.cut
 have hi : Lib.index (p ++ 32 :: r) [32] = (p.length : Int) := index_first h
 show ((⟨(if 0 <= Lib.index (p ++ 32 :: r) [32] then _ else _ : List UInt8 × List UInt8 × Bool).1.toArray⟩ : ByteArray), _) = _
 rw [hi, if_pos (by omega)]
 simp
theorem cut_blank0 {p : List UInt8} (h : (32 : UInt8) ∉ p) : cutF ⟨p.toArray⟩ 32 = (⟨p.toArray⟩, ⟨#[]⟩) := cutF_none (index_none h)
theorem wl_kind {k : Nat} (h1 : 1 <= k) (h4 : k <= 4) : kindF ⟨(wl k).toArray⟩ = k /\ (32 : UInt8) ∉ wl k /\ (10 : UInt8) ∉ wl k := by
 have hk : k = 1 \/ k = 2 \/ k = 3 \/ k = 4 := by omega
 rcases hk with rfl | rfl | rfl | rfl <;> refine ⟨?_, by decide, by decide⟩ <;> unfold kindF <;> rw [ByteArray.toList_eq] <;> decide
theorem name_free {s : ByteArray} (h : NameOk s) {c : UInt8} (hc : c.toNat < 45) : c ∉ s.data.toList := fun e => by
 obtain ⟨k, hk, e⟩ := List.getElem_of_mem e
 have hk' : k < s.size := by simpa using hk
 have hb : bt s k = (c.toNat : Int) := by
  unfold bt
  rw [<- e]
  simp [hk']
  rfl
 rcases h.each k hk' with h | h | h <;> rw [hb] at h <;> omega
theorem vtx_no {a b c : Nat} (ha : a <= 999) (hb : b <= 999) (hc : c <= 999) {x : UInt8} (hx : x < 46) : x ∉ vtx a b c := fun h => by
 have hx' : x < 48 \/ 57 < x := .inl (UInt8.lt_trans hx (by decide))
 have h46 : ¬ x = 46 := fun e => by subst e; revert hx; decide
 unfold vtx at h
 simp only [List.mem_append, List.mem_cons] at h
 rcases h with h | h | h | h | h
 ·exact (ptx_ok ha).not hx' h
 ·exact h46 h
 ·exact (ptx_ok hb).not hx' h
 ·exact h46 h
 ·exact (ptx_ok hc).not hx' h
theorem span_no10 {s : Span} (h1 : s.1 < s.2) (h2 : s.2 <= ALL) : (10 : UInt8) ∉ spanT s := by
 unfold spanT
 have v1 : (10 : UInt8) ∉ vnx s.1 := vnx_no (by omega) (.inl (by decide))
 split
 ·exact v1
 ·split
  ·decide
  ·split
   ·simp only [List.mem_cons, not_or]
    exact ⟨by decide, by decide, v1⟩
   ·rename_i h3
    have v2 : (10 : UInt8) ∉ vnx s.2 := vnx_no (by omega) (.inl (by decide))
    split
    ·simp only [List.mem_cons, not_or]
     exact ⟨by decide, v2⟩
    ·simp only [List.mem_cons, List.mem_append, not_or]
     exact ⟨by decide, by decide, v1, by decide, by decide, v2⟩
theorem jt_cons (sep q : List UInt8) (r : List (List UInt8)) : Lib.joinTail sep (q :: r) = sep ++ (q ++ Lib.joinTail sep r) := by simp [Lib.joinTail]
theorem join_no {c : UInt8} {sep : List UInt8} (hs : c ∉ sep) : ∀ {ps : List (List UInt8)}, (∀ p ∈ ps, c ∉ p) -> c ∉ Lib.join ps sep := by
 intro ps
 have key : ∀ (r : List (List UInt8)), (∀ p ∈ r, c ∉ p) -> c ∉ Lib.joinTail sep r := by
  intro r
  induction r with
  | nil => intro _; simp [Lib.joinTail]
  | cons q r ih =>
   intro h
   rw [jt_cons]
   simp only [List.mem_append, not_or]
   exact ⟨hs, h q (by simp), ih fun p hp => h p (by simp [hp])⟩
 intro h
 cases ps with
 | nil => simp [Lib.join]
 | cons p r =>
  rw [Lib.join_cons, List.mem_append, not_or]
  exact ⟨h p (by simp), key r fun q hq => h q (by simp [hq])⟩
theorem rgT_no10 {l : List Span} (hl : Rg l) : (10 : UInt8) ∉ rgT l := by
 unfold rgT
 split
 ·decide
 ·refine join_no (by decide) fun p hp => ?_
  obtain ⟨s, hs, rfl⟩ := List.mem_map.1 hp
  obtain ⟨h1, h2⟩ := canon_mem hl s hs
  exact span_no10 h1 h2
theorem check_parts {x : Ln} (h : ctCheck x = 0) : (1 <= x.kind /\ x.kind <= 4) /\ NameOk x.name /\ (x.pair -> NameOk x.other) /\ (¬ x.pair -> x.other = ⟨#[]⟩) /\ (x.kind = 1 -> x.rng = []) /\ (x.kind = 4 -> x.a = 0 /\ x.b = 0 /\ x.c = 0) /\ InV x.a x.b x.c := by
 unfold ctCheck at h
 split at h
 ·cases h
 ·rename_i h1
  split at h
  ·cases h
  ·rename_i h2
   split at h
   ·cases h
   ·rename_i h3
    split at h
    ·cases h
    ·rename_i h4
     split at h
     ·cases h
     ·rename_i h5
      split at h
      ·cases h
      ·rename_i h6
       refine ⟨by omega, Classical.byContradiction fun e => h2 (.inl e), fun hp => Classical.byContradiction fun e => h2 (.inr ⟨hp, e⟩), fun hp => bytes_empty (Classical.byContradiction fun e => h3 ⟨hp, e⟩), fun hk => Classical.byContradiction fun e => h4 ⟨hk, e⟩, fun hk => ?_, Classical.byContradiction fun e => h6 e⟩
       refine Classical.byContradiction fun e => h5 ⟨hk, ?_⟩
       omega
theorem rng_back {l : List Span} (hl : Rg l) (hn : (rgT l).length <= 1000) : rngF ⟨(rgT l).toArray⟩ = .ok l := by
 unfold rngF
 rw [if_neg (by show ¬ 1000 < (rgT l).toArray.size; simp; omega), range_text hl]
theorem ba_self (s : ByteArray) : (⟨s.data.toList.toArray⟩ : ByteArray) = s := by simp
theorem wtx_in {a b c : Int} (h : InV a b c) : ∃ a' b' c' : Nat, a = (a' : Int) /\ b = (b' : Int) /\ c = (c' : Int) /\ a' <= 999 /\ b' <= 999 /\ c' <= 999 /\ wtx a b c = vtx a' b' c' := by
 obtain ⟨⟨h1, h2⟩, ⟨h3, h4⟩, h5, h6⟩ := h
 obtain ⟨a', rfl⟩ := Int.eq_ofNat_of_zero_le h1
 obtain ⟨b', rfl⟩ := Int.eq_ofNat_of_zero_le h3
 obtain ⟨c', rfl⟩ := Int.eq_ofNat_of_zero_le h5
 exact ⟨a', b', c', rfl, rfl, rfl, by omega, by omega, by omega, vtx_wtx _ _ _⟩
theorem line_back {x : Ln} (hc : ctCheck x = 0) (hr : Rg x.rng) (hn : (rgT x.rng).length <= 1000) : lineF ⟨(lnT x).toArray⟩ = .ok x := by
 obtain ⟨⟨k1, k4⟩, hnm, ho1, ho2, h1, h4, hin⟩ := check_parts hc
 obtain ⟨kind, name, a, b, c, other, rng⟩ := x
 simp only at *
 obtain ⟨a', b', c', rfl, rfl, rfl, ha, hb, hcc, hv⟩ := wtx_in hin
 have hn32 : (32 : UInt8) ∉ name.data.toList := name_free hnm (by decide)
 have hv32 : (32 : UInt8) ∉ vtx a' b' c' := vtx_no ha hb hcc (by decide)
 have hvt := vers_tells ha hb hcc
 have hk : kind = 1 \/ kind = 2 \/ kind = 3 \/ kind = 4 := by omega
 rcases hk with rfl | rfl | rfl | rfl
 ·obtain ⟨q1, q2, -⟩ := wl_kind (k := 1) (by decide) (by decide)
  obtain rfl := h1 rfl
  obtain rfl := ho2 (by simp [Ln.pair])
  have hT : lnT ⟨1, name, (a' : Int), (b' : Int), (c' : Int), ⟨#[]⟩, []⟩ = wl 1 ++ 32 :: (name.data.toList ++ 32 :: vtx a' b' c') := by unfold lnT; simp only [if_true, hv]
  rw [hT]
  unfold lineF
  simp only [cut_blank q2, cut_blank hn32, cut_blank0 hv32, q1, hvt, ba_self]
  rfl
 ·obtain ⟨q1, q2, -⟩ := wl_kind (k := 2) (by decide) (by decide)
  have hon := ho1 (.inl rfl)
  have ho32 : (32 : UInt8) ∉ other.data.toList := name_free hon (by decide)
  have hT : lnT ⟨2, name, (a' : Int), (b' : Int), (c' : Int), other, rng⟩ = wl 2 ++ 32 :: (name.data.toList ++ 32 :: (vtx a' b' c' ++ 32 :: (other.data.toList ++ 32 :: rgT rng))) := by unfold lnT; simp [hv]
  rw [hT]
  unfold lineF
  simp only [cut_blank q2, cut_blank hn32, cut_blank hv32, cut_blank ho32, q1, hvt, ba_self, tailF, rng_back hr hn]
  rfl
 ·obtain ⟨q1, q2, -⟩ := wl_kind (k := 3) (by decide) (by decide)
  have hon := ho1 (.inr rfl)
  have ho32 : (32 : UInt8) ∉ other.data.toList := name_free hon (by decide)
  have hT : lnT ⟨3, name, (a' : Int), (b' : Int), (c' : Int), other, rng⟩ = wl 3 ++ 32 :: (name.data.toList ++ 32 :: (vtx a' b' c' ++ 32 :: (other.data.toList ++ 32 :: rgT rng))) := by unfold lnT; simp [hv]
  rw [hT]
  unfold lineF
  simp only [cut_blank q2, cut_blank hn32, cut_blank hv32, cut_blank ho32, q1, hvt, ba_self, tailF, rng_back hr hn]
  rfl
 ·obtain ⟨q1, q2, -⟩ := wl_kind (k := 4) (by decide) (by decide)
  obtain ⟨z1, z2, z3⟩ := h4 rfl
  obtain rfl := ho2 (by simp [Ln.pair])
  obtain rfl : a' = 0 := by omega
  obtain rfl : b' = 0 := by omega
  obtain rfl : c' = 0 := by omega
  have hT : lnT ⟨4, name, ((0 : Nat) : Int), ((0 : Nat) : Int), ((0 : Nat) : Int), ⟨#[]⟩, rng⟩ = wl 4 ++ 32 :: (name.data.toList ++ 32 :: rgT rng) := by unfold lnT; simp
  rw [hT]
  unfold lineF
  simp only [cut_blank q2, cut_blank hn32, q1, ba_self, tailF, rng_back hr hn]
  rfl
theorem line_no10 {x : Ln} (hc : ctCheck x = 0) (hr : Rg x.rng) : (10 : UInt8) ∉ lnT x /\ lnT x ≠ [] := by
 obtain ⟨⟨k1, k4⟩, hnm, ho1, ho2, h1, h4, hin⟩ := check_parts hc
 obtain ⟨a', b', c', e1, e2, e3, ha, hb, hcc, hv⟩ := wtx_in hin
 have hn10 : (10 : UInt8) ∉ x.name.data.toList := name_free hnm (by decide)
 have hv10 : (10 : UInt8) ∉ vtx a' b' c' := vtx_no ha hb hcc (by decide)
 have ho10 : (10 : UInt8) ∉ x.other.data.toList := by
  by_cases hp : x.pair
  ·exact name_free (ho1 hp) (by decide)
  ·rw [ho2 hp]; simp
 have hr10 := rgT_no10 hr
 have q1 := (wl_kind (k := 1) (by decide) (by decide)).2.2
 have q2 := (wl_kind (k := 2) (by decide) (by decide)).2.2
 have q3 := (wl_kind (k := 3) (by decide) (by decide)).2.2
 have q4 := (wl_kind (k := 4) (by decide) (by decide)).2.2
 unfold lnT
 rw [hv]
 have hd : ¬ (10 : UInt8) = 32 := by decide
 split
 ·exact ⟨by simp only [List.mem_append, List.mem_cons, not_or]; exact ⟨q1, hd, hn10, hd, hv10⟩, by simp⟩
 ·split
  ·exact ⟨by simp only [List.mem_append, List.mem_cons, not_or]; exact ⟨q2, hd, hn10, hd, hv10, hd, ho10, hd, hr10⟩, by simp⟩
  ·split
   ·exact ⟨by simp only [List.mem_append, List.mem_cons, not_or]; exact ⟨q3, hd, hn10, hd, hv10, hd, ho10, hd, hr10⟩, by simp⟩
   ·exact ⟨by simp only [List.mem_append, List.mem_cons, not_or]; exact ⟨q4, hd, hn10, hd, hr10⟩, by simp⟩
theorem ctT_join : ∀ ls : List Ln, ctT ls = Lib.join (ls.map lnT ++ [[]]) [10] := by
 have key : ∀ ls : List Ln, Lib.joinTail [10] (ls.map lnT ++ [[]]) = 10 :: ctT ls := by
  intro ls
  induction ls with
  | nil => rfl
  | cons x r ih =>
   rw [List.map_cons, List.cons_append, jt_cons, ih]
   simp [ctT]
 intro ls
 cases ls with
 | nil => rfl
 | cons x r =>
  simp only [List.map_cons, List.cons_append]
  rw [Lib.join_cons, key]
  simp [ctT]
theorem pl_back : ∀ (ls : List Ln) (L : List (Nat × ByteArray)) (acc : List (Nat × Ln)), L.map (fun x => x.2.data.toList) = ls.map lnT -> (∀ x ∈ ls, lineF ⟨(lnT x).toArray⟩ = .ok x) -> ∃ ps, plF L acc = .ok ps /\ ps.map Prod.snd = acc.map Prod.snd ++ ls := by
 intro ls
 induction ls with
 | nil =>
  intro L acc h _
  obtain rfl : L = [] := by simpa using h
  exact ⟨acc, rfl, by simp⟩
 | cons x r ih =>
  intro L acc h hl
  cases L with
  | nil => simp at h
  | cons y L =>
   simp only [List.map_cons, List.cons.injEq] at h
   have hy : y.2 = ⟨(lnT x).toArray⟩ := bytes_of h.1
   rw [plF, hy, hl x (by simp)]
   obtain ⟨ps, h1, h2⟩ := ih L (acc ++ [(y.1, x)]) h.2 fun z hz => hl z (by simp [hz])
   exact ⟨ps, h1, by rw [h2]; simp⟩
theorem filter_ne_map (L : List (Nat × ByteArray)) : (L.filter fun x => decide (x.2.size ≠ 0)).map (fun x => x.2.data.toList) = (L.map fun x => x.2.data.toList).filter fun l => decide (l ≠ []) := by
 induction L with
 | nil => rfl
 | cons x L ih =>
  have e : (decide (x.2.size ≠ 0)) = decide (x.2.data.toList ≠ []) := by
   have hs : x.2.data.toList.length = x.2.size := by simp
   by_cases h : x.2.data.toList = []
   ·rw [h] at hs; simp at hs; simp [h, <- hs]
   ·have : 0 < x.2.data.toList.length := List.length_pos_iff.2 h
    rw [decide_eq_true h, decide_eq_true (by omega)]
  rw [List.filter_cons, List.map_cons, List.filter_cons, e]
  split
  ·rw [List.map_cons, ih]
  ·exact ih
theorem back_parse {ls : List Ln} {its : List It} (hN : newF ls = .ok its) (hck : ∀ x ∈ ls, ctCheck x = 0) (hr : ∀ x ∈ ls, Rg x.rng) (hlen : (ctT ls).length <= 20000) (h1 : ∀ x ∈ ls, (rgT x.rng).length <= 1000) : parseF ⟨(ctT ls).toArray⟩ = .ok (ls, its) := by
 have hsz : (⟨(ctT ls).toArray⟩ : ByteArray).size = (ctT ls).length := by show (ctT ls).toArray.size = _; simp
 have hmap : (lnsF ⟨(ctT ls).toArray⟩ (⟨(ctT ls).toArray⟩ : ByteArray).size 0).map (fun x => x.2.data.toList) = ls.map lnT := by
  rw [lns_cut _ _ _ (by omega) (by omega), filter_ne_map, cut_list]
  show List.filter _ (cutL [10] _ ((ctT ls).drop 0)) = _
  rw [List.drop_zero, ctT_join, cut_join1 10 _ _ (by simp) ?_ ?_]
  ·rw [List.filter_append]
   have : (ls.map lnT).filter (fun l => decide (l ≠ [])) = ls.map lnT := List.filter_eq_self.2 fun p hp => by
    obtain ⟨x, hx, rfl⟩ := List.mem_map.1 hp
    simpa using (line_no10 (hck x hx) (hr x hx)).2
   rw [this]; simp
  ·intro p hp
   rcases List.mem_append.1 hp with hp | hp
   ·obtain ⟨x, hx, rfl⟩ := List.mem_map.1 hp
    exact (line_no10 (hck x hx) (hr x hx)).1
   ·have : p = [] := by simpa using hp
    subst this; simp
  ·have := join_long 10 (ls.map lnT ++ [[]])
   rw [<- ctT_join] at this ⊢
   rw [hsz]; exact this
 obtain ⟨ps, h2, h3⟩ := pl_back ls _ [] hmap fun x hx => line_back (hck x hx) (hr x hx) (h1 x hx)
 unfold parseF
 rw [if_neg (by rw [hsz]; omega), h2]
 simp only [List.map_nil, List.nil_append] at h3
 simp only [h3, hN]
end Go.Proofs.YtmhophccdfmngaaGreatDoor
namespace Go.Proofs.YtmhophccdfmngaaGreatDoor
open Sv
def Asc (l : List It) : Prop := l.Pairwise fun x y => ctCmp x y < 0
theorem gathF_nodup : ∀ (ls : List Ln) (i : Nat) (its out : List It), its.Nodup -> gathF ls i its = .ok out -> out.Nodup
 | [], i, its, out, h0, h => by cases h; exact h0
 | x :: r, i, its, out, h0, h => by
  rw [gathF] at h
  split at h
  ·cases h
  ·split at h
   ·split at h
    ·cases h
    ·rename_i hx
     split at h
     ·cases h
     ·refine gathF_nodup r (i + 1) _ out ?_ h
      rw [List.nodup_append]
      exact ⟨h0, by simp, fun a ha b hb => by
       have : b = x.it := by simpa using hb
       subst this
       exact fun e => hx (e ▸ ha)⟩
   ·exact gathF_nodup r (i + 1) its out h0 h
def itsL (ls : List Ln) : List It := (ls.filter fun x => decide (x.kind = 1)).map Ln.it
theorem gathF_its : ∀ (ls : List Ln) (i : Nat) (its out : List It), gathF ls i its = .ok out -> out = its ++ itsL ls
 | [], i, its, out, h => by cases h; simp [itsL]
 | x :: r, i, its, out, h => by
  rw [gathF] at h
  split at h
  ·cases h
  ·split at h
   ·rename_i hk
    split at h
    ·cases h
    ·split at h
     ·cases h
     ·have := gathF_its r (i + 1) _ out h
      rw [this]
      simp [itsL, hk]
   ·rename_i hk
    have := gathF_its r (i + 1) its out h
    rw [this]
    simp [itsL, hk]
theorem asc_sort {l : List It} (h : l.Nodup) : Asc (sortF l) := by
 have hs : (sortF l).Pairwise fun x y => (!decide (ctCmp y x < 0)) = true := by
  unfold sortF
  refine List.pairwise_mergeSort ?_ ?_ l
  ·intro a b c h1 h2
   simp only [Bool.not_eq_true', decide_eq_false_iff_not] at h1 h2 ⊢
   intro h3
   rcases Int.lt_trichotomy (ctCmp b a) 0 with q | q | q
   ·exact h1 q
   ·have e := ctCmp_eq _ _ q
    subst e
    exact h2 h3
   ·have q' : ctCmp a b < 0 := by rw [ctCmp_anti]; omega
    exact h2 (ctCmp_trans _ _ _ h3 q')
  ·intro a b
   simp only [Bool.or_eq_true, Bool.not_eq_true', decide_eq_false_iff_not]
   have := ctCmp_anti a b
   omega
 have hn : (sortF l).Nodup := (sortF_perm l).nodup_iff.2 h
 refine (hs.and hn).imp fun {a b} hab => ?_
 obtain ⟨h1, h2⟩ := hab
 simp only [Bool.not_eq_true', decide_eq_false_iff_not] at h1
 have h3 := ctCmp_anti a b
 rcases Int.lt_trichotomy (ctCmp a b) 0 with q | q | q
 ·exact q
 ·exact absurd (ctCmp_eq _ _ q) h2
 ·omega
theorem asc_ext {a b : List It} (ha : Asc a) (hb : Asc b) (h : a.Perm b) : a = b := by
 refine List.Perm.eq_of_pairwise (le := fun x y => ctCmp x y < 0) ?_ ha hb h
 intro x y _ _ h1 h2
 have := ctCmp_anti x y
 omega
def insPos (l : List It) (x : It) : Nat -> Nat
 | 0 => 0
 | i + 1 => if ctCmp x (l.getD i default) < 0 then insPos l x i else i + 1
def insAt (l : List It) (x : It) (i : Nat) : List It := l.take i ++ x :: l.drop i
def ritF : List Ln -> List It -> List It
 | [], acc => acc
 | x :: r, acc => if x.kind = 1 then ritF r (insAt acc x.it (insPos acc x.it acc.length)) else ritF r acc
theorem insPos_le (l : List It) (x : It) : ∀ n, insPos l x n <= n
 | 0 => Nat.le_refl _
 | n + 1 => by
  unfold insPos
  split
  ·have := insPos_le l x n; omega
  ·exact Nat.le_refl _
theorem insPos_above (l : List It) (x : It) : ∀ n j, insPos l x n <= j -> j < n -> ctCmp x (l.getD j default) < 0
 | 0, j, _, h => by omega
 | n + 1, j, h1, h2 => by
  unfold insPos at h1
  split at h1
  ·rename_i hc
   rcases Nat.lt_or_ge j n with h | h
   ·exact insPos_above l x n j h1 h
   ·obtain rfl : j = n := by omega
    exact hc
  ·omega
theorem insPos_stop (l : List It) (x : It) : ∀ n k, insPos l x n = k + 1 -> ¬ ctCmp x (l.getD k default) < 0
 | 0, k, h => by simp [insPos] at h
 | n + 1, k, h => by
  unfold insPos at h
  split at h
  ·exact insPos_stop l x n k h
  ·rename_i hc
   obtain rfl : n = k := by omega
   exact hc
theorem insAt_perm (l : List It) (x : It) (i : Nat) : (insAt l x i).Perm (x :: l) := by
 unfold insAt
 have h := List.perm_middle (a := x) (l₁ := l.take i) (l₂ := l.drop i)
 rwa [List.take_append_drop] at h
theorem asc_ins {l : List It} {x : It} (hl : Asc l) (hx : x ∉ l) : Asc (insAt l x (insPos l x l.length)) := by
 obtain ⟨p, hp⟩ : ∃ p, insPos l x l.length = p := ⟨_, rfl⟩
 rw [hp]
 have hple : p <= l.length := by rw [<- hp]; exact insPos_le l x _
 have gd : ∀ j (hj : j < l.length), l.getD j default = l[j] := fun j hj => by rw [List.getD_eq_getElem?_getD, List.getElem?_eq_getElem hj]; rfl
 have habove : ∀ y ∈ l.drop p, ctCmp x y < 0 := fun y hy => by
  obtain ⟨j, hj, rfl⟩ := List.getElem_of_mem hy
  simp only [List.length_drop] at hj
  rw [List.getElem_drop, <- gd (p + j) (by omega)]
  exact insPos_above l x l.length (p + j) (by omega) (by omega)
 have hsplit : Asc (l.take p ++ l.drop p) := by rw [List.take_append_drop]; exact hl
 obtain ⟨h1, h2, h3⟩ := List.pairwise_append.1 hsplit
 have hbelow : ∀ y ∈ l.take p, ctCmp y x < 0 := fun y hy => by
  cases p with
  | zero => simp at hy
  | succ k =>
   have hk : k < l.length := by omega
   have hs := insPos_stop l x l.length k hp
   rw [gd k hk] at hs
   have hne : ctCmp x l[k] ≠ 0 := fun e => hx (ctCmp_eq _ _ e ▸ List.getElem_mem hk)
   have hkx : ctCmp l[k] x < 0 := by rw [ctCmp_anti]; omega
   obtain ⟨j, hj, rfl⟩ := List.getElem_of_mem hy
   simp only [List.length_take] at hj
   rw [List.getElem_take]
   rcases Nat.lt_or_ge j k with h | h
   ·exact ctCmp_trans _ _ _ ((List.pairwise_iff_getElem.1 hl) j k (by omega) hk h) hkx
   ·obtain rfl : j = k := by omega
    exact hkx
 unfold insAt
 refine List.pairwise_append.2 ⟨h1, List.pairwise_cons.2 ⟨habove, h2⟩, fun a ha b hb => ?_⟩
 rcases List.mem_cons.1 hb with rfl | hb
 ·exact hbelow a ha
 ·exact h3 a ha b hb
theorem ritF_perm : ∀ (ls : List Ln) (acc : List It), (ritF ls acc).Perm (acc ++ itsL ls)
 | [], acc => by simp [ritF, itsL]
 | x :: r, acc => by
  unfold ritF
  split
  ·rename_i hk
   refine (ritF_perm r _).trans ?_
   have e : itsL (x :: r) = x.it :: itsL r := by simp [itsL, hk]
   rw [e]
   exact ((insAt_perm acc x.it _).append_right _).trans List.perm_middle.symm
  ·rename_i hk
   have e : itsL (x :: r) = itsL r := by simp [itsL, hk]
   rw [e]
   exact ritF_perm r acc
theorem ritF_asc : ∀ (ls : List Ln) (acc : List It), Asc acc -> (acc ++ itsL ls).Nodup -> Asc (ritF ls acc)
 | [], acc, h, _ => by simpa [ritF] using h
 | x :: r, acc, h, hn => by
  unfold ritF
  split
  ·rename_i hk
   have e : itsL (x :: r) = x.it :: itsL r := by simp [itsL, hk]
   rw [e] at hn
   have hx : x.it ∉ acc := fun ha => (List.nodup_append.1 hn).2.2 _ ha _ (by simp) rfl
   refine ritF_asc r _ (asc_ins h hx) ?_
   refine (List.Perm.nodup_iff ?_).2 hn
   exact ((insAt_perm acc x.it _).append_right _).trans List.perm_middle.symm
  ·rename_i hk
   have e : itsL (x :: r) = itsL r := by simp [itsL, hk]
   rw [e] at hn
   exact ritF_asc r acc h hn
theorem new_asc {ls : List Ln} {its : List It} (h : newF ls = .ok its) : Asc its /\ ritF ls [] = its := by
 unfold newF at h
 split at h
 ·cases h
 ·split at h
  ·cases h
  ·rename_i g hg
   split at h
   ·cases h
   ·cases h
    have hn := gathF_nodup ls 0 [] g (by simp) hg
    have hi := gathF_its ls 0 [] g hg
    simp only [List.nil_append] at hi
    have ha := asc_sort hn
    refine ⟨ha, asc_ext (ritF_asc ls [] List.Pairwise.nil (by simpa [<- hi] using hn)) ha ?_⟩
    refine (ritF_perm ls []).trans ?_
    simp only [List.nil_append, <- hi]
    exact (sortF_perm g).symm
theorem asc_at {l : List It} (h : Asc l) {i j : Nat} (hj : j < l.length) (hij : i < j) : ctCmp (l.getD i default) (l.getD j default) < 0 := by
 have gd : ∀ j (hj : j < l.length), l.getD j default = l[j] := fun j hj => by rw [List.getD_eq_getElem?_getD, List.getElem?_eq_getElem hj]; rfl
 rw [gd i (by omega), gd j hj]
 exact List.pairwise_iff_getElem.1 h i j (by omega) hj hij
theorem cmp_names {x y : It} (h : ctCmp x y < 0) : x.name = y.name \/ Lib.compareBytes x.name.data.toList y.name.data.toList < 0 := by
 unfold ctCmp at h
 split at h
 ·rename_i e; exact Or.inl (bytes_eq e)
 ·exact Or.inr h
end Go.Proofs.YtmhophccdfmngaaGreatDoor

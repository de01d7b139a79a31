/- Tables as texts; the next level, in memory. -/
import Derived.Test.YtcjjekhecjmaeaaGreatDoorImRefW
import Derived.Deep.CutBlock
import Derived.Test.YtcjjekhecjmaeaaGreatDoorTlMap
import Derived.Test.YtcjjekhecjmaeaaGreatDoorQuads
namespace Go.Proofs.YtcjjekhecjmaeaaGreatDoor
section
open Go.RowKit Go.Maps
section
variable {vars : Nat} {ns : List Nd} {vb db fb bb : Nat}
structure RB (B : Nat) (w00 w : World) (db bb : Nat) (dv : Value) : Prop where
 tab : ∀ W, Below B w00 W -> Tab10 W
 below : Below B w00 w
 sz : B <= w.heap.size
 ge : B <= db /\ B <= bb
 own : ∀ k, dv.ownBlock = some k -> B <= k
theorem RB.fr {B : Nat} {w00 w w' : World} {dv dv' : Value} (h : RB B w00 w db bb dv) (hF : Fr db bb dv w w' dv') : RB B w00 w' db bb dv' :=
 ⟨h.tab, h.below.trans (hF.kept.below h.sz (fun k e => by
  rcases e with e | e | e
  ·rw [e]; exact h.ge.1
  ·rw [e]; exact h.ge.2
  ·exact h.own k e)), Nat.le_trans h.sz hF.kept.size, h.ge, fun k e => by
  rcases hF.own k e with e | e
  ·exact h.own k e
  ·exact Nat.le_trans h.sz e⟩
theorem RB.new {B : Nat} {w00 w w' : World} {dv : Value} (h : RB B w00 w db bb dv) (hb : Below w.heap.size w w') : RB B w00 w' db bb dv := h.fr (Fr.of_below hb)
structure Two2 (w0 w : World) (n gl gh i : Nat) (Ll Lh : List Bool) : Prop where
 ne : gl ≠ gh
 gel : w0.heap.size <= gl /\ w0.heap.size <= gh
 rl : w.ownsRow 0 4 1 (.slice (some ⟨gl, 0, none⟩) n n) n (mcells (partT Ll n i))
 rh : w.ownsRow 0 4 1 (.slice (some ⟨gh, 0, none⟩) n n) n (mcells (partT Lh n i))
 below : Below w0.heap.size w0 w
theorem Two2.step {w0 w X : World} {n gl gh i : Nat} {Ll Lh : List Bool} (h : Two2 w0 w n gl gh i Ll Lh) (hX : Below w.heap.size w X) (hl : Ll.length = n) (hh : Lh.length = n) (hi : i < n) (p q : Bool) (hp : Ll.getD i false = p) (hq : Lh.getD i false = q) :
  Two2 w0 ((X.setCell ⟨gl, i, none⟩ (.bool p)).setCell ⟨gh, i, none⟩ (.bool q)) n gl gh (i + 1) Ll Lh := by
 have hpe : Ll[i]'(by omega) = p := by rw [<- hp, List.getD_eq_getElem?_getD, List.getElem?_eq_getElem (by omega)]; rfl
 have hqe : Lh[i]'(by omega) = q := by rw [<- hq, List.getD_eq_getElem?_getD, List.getElem?_eq_getElem (by omega)]; rfl
 obtain ⟨k1, r1⟩ := store_tab (W3 := w) hl hi h.rl (Kept.refl _ _) hX p hpe
 have hX2 : Kept (fun j => j = gl) w (X.setCell ⟨gl, i, none⟩ (.bool p)) := k1
 have rh1 : (X.setCell ⟨gl, i, none⟩ (.bool p)).ownsRow 0 4 1 (.slice (some ⟨gh, 0, none⟩) n n) n (mcells (partT Lh n i)) := ownsRow_kept h.rh hX2 (fun k e hk => by
  have e' : gh = k := by simpa [Value.ownBlock] using e
  have hk' : k = gl := hk
  exact h.ne (by omega))
 obtain ⟨k2, r2⟩ := store_tab (W3 := X.setCell ⟨gl, i, none⟩ (.bool p)) hh hi rh1 (Kept.refl _ _) (Below.refl _ _) q hqe
 have rl2 := ownsRow_kept r1 k2 (fun k e hk => by
  have e' : gl = k := by simpa [Value.ownBlock] using e
  have hk' : k = gh := hk
  exact h.ne (by omega))
 have hb : Below w0.heap.size w0 ((X.setCell ⟨gl, i, none⟩ (.bool p)).setCell ⟨gh, i, none⟩ (.bool q)) := (h.below.trans (k1.below h.below.size (fun k e => by have e' : k = gl := e; have := h.gel.1; omega))).trans (k2.below (Nat.le_trans h.below.size k1.size) (fun k e => by have e' : k = gh := e; have := h.gel.2; omega))
 exact ⟨h.ne, h.gel, rl2, r2, hb⟩
theorem Two2.start (w : World) (n : Nat) (hn : n <= 64) (gl gh : Nat) (hg : gl = w.heap.size /\ gh = w.heap.size + 1 \/ gl = w.heap.size + 1 /\ gh = w.heap.size) (Ll Lh : List Bool) :
  Two2 w ((w.alloc (.cells (madeCells #[.bool false] n) 4)).alloc (.cells (madeCells #[.bool false] n) 4)) n gl gh 0 Ll Lh := by
 have r0 := made_row w (B := 0) (Nat.zero_le _) n hn
 have r1 := made_row (w.alloc (.cells (madeCells #[.bool false] n) 4)) (B := 0) (Nat.zero_le _) n hn
 rw [World.size_alloc] at r1
 have r0' := ownsRow_new r0 (below_new (w.alloc (.cells (madeCells #[.bool false] n) 4)) (.cells (madeCells #[.bool false] n) 4))
 have hb := (below_new w (.cells (madeCells #[.bool false] n) 4)).alloc (below_new w (.cells (madeCells #[.bool false] n) 4)).size (.cells (madeCells #[.bool false] n) 4)
 rcases hg with ⟨rfl, rfl⟩ | ⟨rfl, rfl⟩
 ·exact ⟨by omega, ⟨by omega, by omega⟩, by rw [partT_zero]; exact r0', by rw [partT_zero]; exact r1, hb⟩
 ·exact ⟨by omega, ⟨by omega, by omega⟩, by rw [partT_zero]; exact r1, by rw [partT_zero]; exact r0', hb⟩
theorem Two2.undrew {w0 w : World} {n gl gh i : Nat} {Ll Lh : List Bool} (h : Two2 w0.drew w n gl gh i Ll Lh) : Two2 w0 w n gl gh i Ll Lh := ⟨h.ne, h.gel, h.rl, h.rh, (Below.refl w0.heap.size w0).drew.trans h.below⟩
theorem Two2.adrew {w0 w : World} {n gl gh i : Nat} {Ll Lh : List Bool} (h : Two2 w0 w n gl gh i Ll Lh) : Two2 w0 w.drew n gl gh i Ll Lh := ⟨h.ne, h.gel, ownsRow_new h.rl (Below.refl _ _).drew, ownsRow_new h.rh (Below.refl _ _).drew, h.below.drew⟩
theorem Two2.done {w0 w : World} {n gl gh : Nat} {Ll Lh : List Bool} (h : Two2 w0 w n gl gh n Ll Lh) (hl : Ll.length = n) (hh : Lh.length = n) : BoolsAt w gl Ll /\ BoolsAt w gh Lh := by
 have r1 := h.rl
 have r2 := h.rh
 rw [partT_full hl] at r1
 rw [partT_full hh] at r2
 exact ⟨bools_row r1 hl, bools_row r2 hh⟩
theorem RSt.grow {w w8 w10 : World} {D : List Int} {gs : List Nat} {dv dv8 : Value} {h : Int} {g k' : Nat} (hS : RSt w vars ns vb db fb bb D gs dv) (hb : BoolsAt w g (tabH vars ns h)) (hgd : g ≠ db) (hgb : g ≠ bb) (hgo : dv.ownBlock ≠ some g)
  (hk8 : Kept (fun k => dv.ownBlock = some k) w w8) (hrow : w8.ownsRow 0 43 1 dv8 (gs.length + 1) (tcells (2 ^ vars) gs ++ [.slice (some ⟨g, 0, none⟩) (2 ^ vars) (2 ^ vars)])) (hloc : dv8.ownBlock = dv.ownBlock \/ dv8.ownBlock = some k') (hk' : w.heap.size <= k')
  (hk10 : Kept (fun k => k = db \/ k = bb) w8 w10) (cd10 : w10.heap[db]? = some (.cells #[dv8] 25)) (cb10 : w10.heap[bb]? = some (.cells #[.string ⟨((D ++ [h]).flatMap (lineF ns (D ++ [h]))).toArray⟩] 9)) :
  RSt w10 vars ns vb db fb bb (D ++ [h]) (gs ++ [g]) dv8 /\ Fr db bb dv w w10 dv8 := by
 obtain ⟨l1, l2⟩ := hS.lt
 obtain ⟨d1, d2⟩ := hS.dlt
 obtain ⟨e1, e2, e3, e4, e5⟩ := hS.ne
 have hT := hS.tabs.snoc rfl hb (tabH_len h) (Nat.zero_le _) hgo hk8 hrow hloc hk'
 have hown : ∀ k, dv8.ownBlock = some k -> dv.ownBlock = some k \/ w.heap.size <= k := fun k hk => by
  rcases hloc with e | e
  ·exact .inl (by rw [<- e]; exact hk)
  ·rw [hk] at e
   cases e
   exact .inr hk'
 have ho8 : ∀ k, dv8.ownBlock = some k -> k ≠ vb /\ k ≠ db /\ k ≠ fb /\ k ≠ bb := fun k hk => by
  rcases hown k hk with e | e
  ·exact hS.own k e
  ·omega
 have haps : ∀ x ∈ gs ++ [g], x ≠ db /\ x ≠ bb := fun x hx => by
  rcases List.mem_append.1 hx with hx | hx
  ·exact hS.aps x hx
  ·rw [List.mem_singleton] at hx; subst hx; exact ⟨hgd, hgb⟩
 have hK : Kept (Wr db bb dv) w w10 := (hk8.mono (fun k e => .inr (.inr e))).trans (hk10.mono (fun k e => e.elim .inl (fun e => .inr (.inl e))))
 have hsz := hK.size
 have nv : ¬ Wr db bb dv vb := fun e => by
  rcases e with e | e | e
  ·exact e1 e
  ·exact e2 e
  ·exact (hS.own vb e).1 rfl
 have nf : ¬ Wr db bb dv fb := fun e => by
  rcases e with e | e | e
  ·exact e3 e
  ·exact e4 e
  ·exact (hS.own fb e).2.2.1 rfl
 have eD : (D ++ [h]).map (tabH vars ns) = D.map (tabH vars ns) ++ [tabH vars ns h] := by simp
 refine ⟨⟨(hK.cell (a := ⟨vb, 0, none⟩) l1 nv).trans hS.cv, cd10, (hK.cell (a := ⟨fb, 0, none⟩) l2 nf).trans hS.cf, cb10, ?_, ⟨by omega, by omega⟩, hS.ne, ho8, haps⟩, ⟨hK, hown⟩⟩
 rw [eD]
 exact hT.kept hk10 (fun k e hs => by
  have := ho8 k e
  rcases hs with hs | hs
  ·exact this.2.1 hs
  ·exact this.2.2.2 hs) (fun x hx hs => by
  have := haps x hx
  rcases hs with hs | hs
  ·exact this.1 hs
  ·exact this.2 hs)
end
end
section
open Go.RowKit Go.Maps
def keyB (t : List Bool) : List UInt8 := t.map fun b => if b = true then 49 else 48
def keyT (t : List Bool) : ByteArray := ⟨(keyB t).toArray⟩
theorem keyB_inj : ∀ {a b : List Bool}, keyB a = keyB b -> a = b
 | [], [], _ => rfl
 | [], _ :: _, h => by simp [keyB] at h
 | _ :: _, [], h => by simp [keyB] at h
 | x :: a, y :: b, h => by
  simp only [keyB, List.map_cons, List.cons.injEq] at h
  have h2 := keyB_inj (a := a) (b := b) h.2
  have h1 := h.1
  subst h2
  cases x <;> cases y <;> simp_all
theorem keyT_inj {a b : List Bool} (h : keyT a = keyT b) : a = b := by
 unfold keyT at h
 injection h with h
 exact keyB_inj (by simpa using h)
theorem keyT_size (t : List Bool) : (keyT t).size = t.length := by
 show (keyB t).toArray.size = _
 simp [keyB]
theorem keyT_snoc (t : List Bool) (b : Bool) : keyT (t ++ [b]) = keyT t ++ ⟨#[if b = true then 49 else 48]⟩ := by
 apply ByteArray.ext
 show (keyB (t ++ [b])).toArray = _
 rw [ByteArray.data_append]
 simp [keyB, keyT]
def sidesF (ns : List Nd) (v : Nat) (l : List Int) : List Int := l.flatMap fun x => [loS ns x v, hiS ns x v]
theorem sidesF_snoc (ns : List Nd) (v : Nat) (l : List Int) (x : Int) : sidesF ns v (l ++ [x]) = sidesF ns v l ++ [loS ns x v, hiS ns x v] := by unfold sidesF; simp
theorem sidesF_len (ns : List Nd) (v : Nat) (l : List Int) : (sidesF ns v l).length = 2 * l.length := by
 unfold sidesF
 induction l with
 | nil => rfl
 | cons x l ih => rw [List.flatMap_cons, List.length_append, ih]; simp; omega
theorem addN_len (acc : List Int) (x : Int) : (addN acc x).length <= acc.length + 1 := by
 unfold addN; split
 ·omega
 ·simp
theorem fold_len : ∀ (l acc : List Int), (l.foldl addN acc).length <= acc.length + l.length
 | [], acc => by simp
 | x :: l, acc => by
  have h1 := fold_len l (addN acc x)
  have h2 := addN_len acc x
  rw [List.foldl_cons, List.length_cons]
  omega
theorem lev_len (ns : List Nd) (h : Int) : ∀ v, (levF ns h v).length <= 2 ^ v
 | 0 => by simp [levF]
 | v + 1 => by
  have h1 := fold_len (sidesF ns v (levF ns h v)) []
  have h2 := lev_len ns h v
  rw [sidesF_len] at h1
  have e : levF ns h (v + 1) = (sidesF ns v (levF ns h v)).foldl addN [] := rfl
  rw [e, Nat.pow_succ]
  simp at h1
  omega
theorem topsN_snoc (ns : List Nd) (v : Nat) (l : List Int) (x : Int) : topsN ns v (l ++ [x]) = topsN ns v l + (if topOf ns x = (v : Int) then 1 else 0) := by
 unfold topsN
 rw [List.filter_append, List.length_append]
 congr 1
 by_cases h : topOf ns x = (v : Int)
 ·rw [if_pos h, List.filter_cons, if_pos (by simpa using h)]; rfl
 ·rw [if_neg h, List.filter_cons, if_neg (by simpa using h)]; rfl
theorem topsN_le (ns : List Nd) (v : Nat) (l : List Int) : topsN ns v l <= l.length := List.length_filter_le _ _
theorem sizeN_le (ns : List Nd) (h : Int) : ∀ v, v <= 6 -> sizeN ns h v <= 64 * v
 | 0, _ => Nat.zero_le _
 | v + 1, hv => by
  have h1 := sizeN_le ns h v (by omega)
  have h2 := topsN_le ns v (levF ns h v)
  have h3 := lev_len ns h v
  have h4 : 2 ^ v <= 2 ^ 6 := Nat.pow_le_pow_right (by omega) (by omega)
  have e : sizeN ns h (v + 1) = sizeN ns h v + topsN ns v (levF ns h v) := rfl
  omega
theorem bools_heap {w w' : World} {g : Nat} {l : List Bool} (h : BoolsAt w g l) (hb : w'.heap[g]? = w.heap[g]?) : BoolsAt w' g l :=
 ⟨by
  have h1 := h.lt
  rw [Array.getElem?_eq_getElem h1] at hb
  exact (Array.getElem?_eq_some_iff.1 hb).1, fun i hi => (World.cell?_of_block (a := ⟨g, i, none⟩) hb).trans (h.cells i hi)⟩
theorem keys_mem {vars : Nat} {ns : List Nd} (hg : Good vars ns) {A : List Int} (hA : ∀ x ∈ A, hasB ns x = true) {y : Int} (hy : hasB ns y = true) : keyT (tabH vars ns y) ∈ A.map (fun x => keyT (tabH vars ns x)) ↔ y ∈ A := by
 rw [List.mem_map]
 constructor
 ·rintro ⟨x, hx, e⟩
  have := (tabH_same hg (hA x hx) hy).1 (keyT_inj e)
  subst this
  exact hx
 ·exact fun h => ⟨y, h, rfl⟩
structure Mid (mb n vars : Nat) (ns : List Nd) (w3 w : World) (A : List Int) (gs : List Nat) (xv : Value) : Prop where
 tabs : TabsAt (mb + 1) w xv n gs (A.map (tabH vars ns))
 seen : StrSet w mb (A.map fun x => keyT (tabH vars ns x))
 below : Below w3.heap.size w3 w
 has : ∀ x ∈ A, hasB ns x = true
 mb : w3.heap.size <= mb
section
variable {mb n vars : Nat} {ns : List Nd} {w3 w w' : World} {A : List Int} {gs : List Nat} {xv : Value}
theorem Mid.own (h : Mid mb n vars ns w3 w A gs xv) {k : Nat} (e : xv.ownBlock = some k) : mb < k /\ k < w.heap.size := by
 have := h.tabs.row.lt k e
 omega
theorem Mid.new (h : Mid mb n vars ns w3 w A gs xv) (hb : Below w.heap.size w w') : Mid mb n vars ns w3 w' A gs xv :=
 ⟨h.tabs.new hb, h.seen.block (hb.block mb h.seen.lt), h.below.trans (hb.mono h.below.size), h.has, h.mb⟩
theorem Mid.gl (h : Mid mb n vars ns w3 w A gs xv) : gs.length = A.length := by
 have := h.tabs.len
 rwa [List.length_map] at this
theorem Mid.snoc (h : Mid mb n vars ns w3 w A gs xv) {gy : Nat} {y : Int} (hb : BoolsAt w gy (tabH vars ns y)) (hn : n = 2 ^ vars) (hgy : mb < gy) (hown : xv.ownBlock ≠ some gy) (hy : hasB ns y = true) {w6 w9 : World} {v9 : Value} {o : Obj} {N k' : Nat} (hN : gs.length = N)
  (hS6 : StrSet w6 mb (A.map (fun x => keyT (tabH vars ns x)) ++ [keyT (tabH vars ns y)])) (hg6 : w.grownBy w6 (some mb)) (hrow : w9.ownsRow (mb + 1) 43 1 v9 (N + 1) (tcells n gs ++ [.slice (some ⟨gy, 0, none⟩) n n])) (hg9 : (w6.alloc o).grownBy w9 xv.ownBlock) (hloc : v9.ownBlock = xv.ownBlock \/ v9.ownBlock = some k') (hk' : w6.heap.size <= k') :
  Mid mb n vars ns w3 w9 (A ++ [y]) (gs ++ [gy]) v9 /\ ∀ k, k < w.heap.size -> k ≠ mb -> xv.ownBlock ≠ some k -> w9.heap[k]? = w.heap[k]? /\ v9.ownBlock ≠ some k := by
 have k6 : Kept (fun k => k = mb) w w6 := Kept.of_grown hg6 (fun i e => by injection e with e; exact e.symm)
 have t6 : TabsAt (mb + 1) w6 xv n gs (A.map (tabH vars ns)) := h.tabs.kept k6 (fun k e e2 => by have := h.own e; omega) (fun g hg e2 => by have := h.tabs.old g hg; omega)
 have b6 : BoolsAt w6 gy (tabH vars ns y) := hb.kept k6 (by omega)
 have k9 : Kept (fun j => xv.ownBlock = some j) w6 w9 := (Kept.alloc _ w6 _).andThen (Kept.of_grown hg9 (fun i h => h)) (fun i h _ => h)
 have hmb6 : mb < w6.heap.size := hS6.lt
 have hom : xv.ownBlock ≠ some mb := fun e => by have := h.own e; omega
 refine ⟨⟨?_, ?_, ?_, ?_, h.mb⟩, fun k hk hkm hko => ⟨?_, ?_⟩⟩
 ·have := TabsAt.snoc (L := tabH vars ns y) t6 hN b6 (by rw [tabH_len, hn]) hgy hown k9 hrow hloc hk'
  rw [List.map_append]
  exact this
 ·rw [List.map_append]
  exact hS6.block (k9.block mb hmb6 hom)
 ·have b1 : Below w3.heap.size w w6 := k6.below h.below.size (fun k e => by have e' : k = mb := e; have := h.mb; omega)
  have b2 : Below w3.heap.size w6 w9 := k9.below (Nat.le_trans h.below.size k6.size) (fun k e => by have := h.own e; have := h.mb; omega)
  exact (h.below.trans b1).trans b2
 ·intro x hx
  rcases List.mem_append.1 hx with hx | hx
  ·exact h.has x hx
  ·rw [List.mem_singleton] at hx; subst hx; exact hy
 ·exact (k9.block k (Nat.lt_of_lt_of_le hk k6.size) hko).trans (k6.block k hk hkm)
 ·intro e
  rcases hloc with h4 | h4
  ·rw [h4] at e; exact hko e
  ·rw [h4] at e
   have e2 : k' = k := by simpa using e
   have := k6.size
   omega
end
end
end Go.Proofs.YtcjjekhecjmaeaaGreatDoor

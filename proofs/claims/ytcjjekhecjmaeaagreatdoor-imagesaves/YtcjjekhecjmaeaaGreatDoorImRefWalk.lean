/- The reference's Image: its walk. -/
import Derived.Test.YtcjjekhecjmaeaaGreatDoorImRefW
import Derived.Deep.CutBlock
namespace Go.Proofs.YtcjjekhecjmaeaaGreatDoor
open Go.RowKit Go.Maps
section
variable {vars : Nat} {ns : List Nd} {vb db fb bb : Nat}
def ROut (vars : Nat) (ns : List Nd) (vb db fb bb : Nat) (D' : List Int) (h : Int) (dv : Value) (w : World) (e : Ending) (w' : World) : Prop :=
 ∃ gs' dv', e = .returned (.int .i64 (numD D' h)) /\ RSt w' vars ns vb db fb bb D' gs' dv' /\ Fr db bb dv w w' dv'
structure RB (B : Nat) (w00 w : World) (db bb : Nat) (dv : Value) : Prop where
 tab : ∀ W, Below B w00 W -> Tab10 W
 below : Below B w00 w
 sz : B <= w.heap.size
 ge : B <= db /\ B <= bb
 own : ∀ k, dv.ownBlock = some k -> B <= k
theorem RB.fr {B : Nat} {w00 w w' : World} {dv dv' : Value} (h : RB B w00 w db bb dv) (hF : Fr db bb dv w w' dv') : RB B w00 w' db bb dv' :=
 ⟨h.tab, h.below.trans (hF.kept.below h.sz (fun k e => by
  rcases e with e | e | e
  ·rw [e]; exact h.ge.1
  ·rw [e]; exact h.ge.2
  ·exact h.own k e)), Nat.le_trans h.sz hF.kept.size, h.ge, fun k e => by
  rcases hF.own k e with e | e
  ·exact h.own k e
  ·exact Nat.le_trans h.sz e⟩
theorem RB.new {B : Nat} {w00 w w' : World} {dv : Value} (h : RB B w00 w db bb dv) (hb : Below w.heap.size w w') : RB B w00 w' db bb dv := h.fr (Fr.of_below hb)
def RWalk (B : Nat) (w00 : World) (vars : Nat) (ns : List Nd) (vb db fb bb d : Nat) : Prop :=
 ∀ (h : Int) (D : List Int) (gs : List Nat) (dv : Value) (w : World) (g v : Nat), RB B w00 w db bb dv -> RSt w vars ns vb db fb bb D gs dv -> Listed ns D -> hasB ns h = true -> BoolsAt w g (tabH vars ns h) -> g ≠ db -> g ≠ bb -> dv.ownBlock ≠ some g -> v <= vars -> (v : Int) <= topOf ns h -> 24 <= topOf ns h + d ->
  Calls Tryz.prog 50 #[.slice (some ⟨g, 0, none⟩) (2 ^ vars) (2 ^ vars), .int .i64 (v : Int), .pointer (some ⟨vb, 0, none⟩), .pointer (some ⟨db, 0, none⟩), .pointer (some ⟨fb, 0, none⟩), .pointer (some ⟨bb, 0, none⟩)] w (ROut vars ns vb db fb bb (postF ns d h D) h dv w)
theorem line_app {D E : List Int} {h : Int} (h1 : InD D (nd ns (pl h)).l) (h2 : InD D (nd ns (pl h)).h) : lineF ns (D ++ E) h = lineF ns D h := by
 unfold lineF; rw [numD_app h1, numD_app h2]
theorem line_snoc {D : List Int} {h : Int} (hD : Listed ns D) (h1 : InD D (nd ns (pl h)).l) (h2 : InD D (nd ns (pl h)).h) : (D ++ [h]).flatMap (lineF ns (D ++ [h])) = D.flatMap (lineF ns D) ++ lineF ns D h := by
 rw [List.flatMap_append, flat_same (f := lineF ns (D ++ [h])) (g := lineF ns D) (fun x hx => line_app (hD.kid x hx).1 (hD.kid x hx).2)]
 simp [line_app h1 h2]
structure Two2 (w0 w : World) (n gl gh i : Nat) (Ll Lh : List Bool) : Prop where
 ne : gl ≠ gh
 gel : w0.heap.size <= gl /\ w0.heap.size <= gh
 rl : w.ownsRow 0 4 1 (.slice (some ⟨gl, 0, none⟩) n n) n (mcells (partT Ll n i))
 rh : w.ownsRow 0 4 1 (.slice (some ⟨gh, 0, none⟩) n n) n (mcells (partT Lh n i))
 below : Below w0.heap.size w0 w
theorem Two2.step {w0 w X : World} {n gl gh i : Nat} {Ll Lh : List Bool} (h : Two2 w0 w n gl gh i Ll Lh) (hX : Below w.heap.size w X) (hl : Ll.length = n) (hh : Lh.length = n) (hi : i < n) (p q : Bool) (hp : Ll.getD i false = p) (hq : Lh.getD i false = q) :
  Two2 w0 ((X.setCell ⟨gl, i, none⟩ (.bool p)).setCell ⟨gh, i, none⟩ (.bool q)) n gl gh (i + 1) Ll Lh := by
 have hpe : Ll[i]'(by omega) = p := by rw [<- hp, List.getD_eq_getElem?_getD, List.getElem?_eq_getElem (by omega)]; rfl
 have hqe : Lh[i]'(by omega) = q := by rw [<- hq, List.getD_eq_getElem?_getD, List.getElem?_eq_getElem (by omega)]; rfl
 obtain ⟨k1, r1⟩ := store_tab (W3 := w) hl hi h.rl (Kept.refl _ _) hX p hpe
 have hX2 : Kept (fun j => j = gl) w (X.setCell ⟨gl, i, none⟩ (.bool p)) := k1
 have rh1 : (X.setCell ⟨gl, i, none⟩ (.bool p)).ownsRow 0 4 1 (.slice (some ⟨gh, 0, none⟩) n n) n (mcells (partT Lh n i)) := ownsRow_kept h.rh hX2 (fun k e hk => by
  have e' : gh = k := by simpa [Value.ownBlock] using e
  have hk' : k = gl := hk
  exact h.ne (by omega))
 obtain ⟨k2, r2⟩ := store_tab (W3 := X.setCell ⟨gl, i, none⟩ (.bool p)) hh hi rh1 (Kept.refl _ _) (Below.refl _ _) q hqe
 have rl2 := ownsRow_kept r1 k2 (fun k e hk => by
  have e' : gl = k := by simpa [Value.ownBlock] using e
  have hk' : k = gh := hk
  exact h.ne (by omega))
 have hb : Below w0.heap.size w0 ((X.setCell ⟨gl, i, none⟩ (.bool p)).setCell ⟨gh, i, none⟩ (.bool q)) := (h.below.trans (k1.below h.below.size (fun k e => by have e' : k = gl := e; have := h.gel.1; omega))).trans (k2.below (Nat.le_trans h.below.size k1.size) (fun k e => by have e' : k = gh := e; have := h.gel.2; omega))
 exact ⟨h.ne, h.gel, rl2, r2, hb⟩
theorem Two2.start (w : World) (n : Nat) (hn : n <= 64) (gl gh : Nat) (hg : gl = w.heap.size /\ gh = w.heap.size + 1 \/ gl = w.heap.size + 1 /\ gh = w.heap.size) (Ll Lh : List Bool) :
  Two2 w ((w.alloc (.cells (madeCells #[.bool false] n) 4)).alloc (.cells (madeCells #[.bool false] n) 4)) n gl gh 0 Ll Lh := by
 have r0 := made_row w (B := 0) (Nat.zero_le _) n hn
 have r1 := made_row (w.alloc (.cells (madeCells #[.bool false] n) 4)) (B := 0) (Nat.zero_le _) n hn
 rw [World.size_alloc] at r1
 have r0' := ownsRow_new r0 (below_new (w.alloc (.cells (madeCells #[.bool false] n) 4)) (.cells (madeCells #[.bool false] n) 4))
 have hb := (below_new w (.cells (madeCells #[.bool false] n) 4)).alloc (below_new w (.cells (madeCells #[.bool false] n) 4)).size (.cells (madeCells #[.bool false] n) 4)
 rcases hg with ⟨rfl, rfl⟩ | ⟨rfl, rfl⟩
 ·exact ⟨by omega, ⟨by omega, by omega⟩, by rw [partT_zero]; exact r0', by rw [partT_zero]; exact r1, hb⟩
 ·exact ⟨by omega, ⟨by omega, by omega⟩, by rw [partT_zero]; exact r1, by rw [partT_zero]; exact r0', hb⟩
theorem Two2.undrew {w0 w : World} {n gl gh i : Nat} {Ll Lh : List Bool} (h : Two2 w0.drew w n gl gh i Ll Lh) : Two2 w0 w n gl gh i Ll Lh := ⟨h.ne, h.gel, h.rl, h.rh, (Below.refl w0.heap.size w0).drew.trans h.below⟩
theorem Two2.adrew {w0 w : World} {n gl gh i : Nat} {Ll Lh : List Bool} (h : Two2 w0 w n gl gh i Ll Lh) : Two2 w0 w.drew n gl gh i Ll Lh := ⟨h.ne, h.gel, ownsRow_new h.rl (Below.refl _ _).drew, ownsRow_new h.rh (Below.refl _ _).drew, h.below.drew⟩
theorem Two2.done {w0 w : World} {n gl gh : Nat} {Ll Lh : List Bool} (h : Two2 w0 w n gl gh n Ll Lh) (hl : Ll.length = n) (hh : Lh.length = n) : BoolsAt w gl Ll /\ BoolsAt w gh Lh := by
 have r1 := h.rl
 have r2 := h.rh
 rw [partT_full hl] at r1
 rw [partT_full hh] at r2
 exact ⟨bools_row r1 hl, bools_row r2 hh⟩
theorem RSt.grow {w w8 w10 : World} {D : List Int} {gs : List Nat} {dv dv8 : Value} {h : Int} {g k' : Nat} (hS : RSt w vars ns vb db fb bb D gs dv) (hb : BoolsAt w g (tabH vars ns h)) (hgd : g ≠ db) (hgb : g ≠ bb) (hgo : dv.ownBlock ≠ some g)
  (hk8 : Kept (fun k => dv.ownBlock = some k) w w8) (hrow : w8.ownsRow 0 43 1 dv8 (gs.length + 1) (tcells (2 ^ vars) gs ++ [.slice (some ⟨g, 0, none⟩) (2 ^ vars) (2 ^ vars)])) (hloc : dv8.ownBlock = dv.ownBlock \/ dv8.ownBlock = some k') (hk' : w.heap.size <= k')
  (hk10 : Kept (fun k => k = db \/ k = bb) w8 w10) (cd10 : w10.heap[db]? = some (.cells #[dv8] 25)) (cb10 : w10.heap[bb]? = some (.cells #[.string ⟨((D ++ [h]).flatMap (lineF ns (D ++ [h]))).toArray⟩] 9)) :
  RSt w10 vars ns vb db fb bb (D ++ [h]) (gs ++ [g]) dv8 /\ Fr db bb dv w w10 dv8 := by
 obtain ⟨l1, l2⟩ := hS.lt
 obtain ⟨d1, d2⟩ := hS.dlt
 obtain ⟨e1, e2, e3, e4, e5⟩ := hS.ne
 have hT := hS.tabs.snoc rfl hb (tabH_len h) (Nat.zero_le _) hgo hk8 hrow hloc hk'
 have hown : ∀ k, dv8.ownBlock = some k -> dv.ownBlock = some k \/ w.heap.size <= k := fun k hk => by
  rcases hloc with e | e
  ·exact .inl (by rw [<- e]; exact hk)
  ·rw [hk] at e
   cases e
   exact .inr hk'
 have ho8 : ∀ k, dv8.ownBlock = some k -> k ≠ vb /\ k ≠ db /\ k ≠ fb /\ k ≠ bb := fun k hk => by
  rcases hown k hk with e | e
  ·exact hS.own k e
  ·omega
 have haps : ∀ x ∈ gs ++ [g], x ≠ db /\ x ≠ bb := fun x hx => by
  rcases List.mem_append.1 hx with hx | hx
  ·exact hS.aps x hx
  ·rw [List.mem_singleton] at hx; subst hx; exact ⟨hgd, hgb⟩
 have hK : Kept (Wr db bb dv) w w10 := (hk8.mono (fun k e => .inr (.inr e))).trans (hk10.mono (fun k e => e.elim .inl (fun e => .inr (.inl e))))
 have hsz := hK.size
 have nv : ¬ Wr db bb dv vb := fun e => by
  rcases e with e | e | e
  ·exact e1 e
  ·exact e2 e
  ·exact (hS.own vb e).1 rfl
 have nf : ¬ Wr db bb dv fb := fun e => by
  rcases e with e | e | e
  ·exact e3 e
  ·exact e4 e
  ·exact (hS.own fb e).2.2.1 rfl
 have eD : (D ++ [h]).map (tabH vars ns) = D.map (tabH vars ns) ++ [tabH vars ns h] := by simp
 refine ⟨⟨(hK.cell (a := ⟨vb, 0, none⟩) l1 nv).trans hS.cv, cd10, (hK.cell (a := ⟨fb, 0, none⟩) l2 nf).trans hS.cf, cb10, ?_, ⟨by omega, by omega⟩, hS.ne, ho8, haps⟩, ⟨hK, hown⟩⟩
 rw [eD]
 exact hT.kept hk10 (fun k e hs => by
  have := ho8 k e
  rcases hs with hs | hs
  ·exact this.2.1 hs
  ·exact this.2.2.2 hs) (fun x hx hs => by
  have := haps x hx
  rcases hs with hs | hs
  ·exact this.1 hs
  ·exact this.2 hs)
end
end Go.Proofs.YtcjjekhecjmaeaaGreatDoor

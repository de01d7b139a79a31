/- SpaceBest: its closures; small. -/
import Derived.Test.YtiihalknffbjpaaGreatDoorSvRHas
import Derived.Test.YtiihalknffbjpaaGreatDoorSvShelfC
import Derived.Test.YtiihalknffbjpaaGreatDoorRlLineD
import Derived.Test.YtiihalknffbjpaaGreatDoorRlCat
import Derived.Test.YtiihalknffbjpaaGreatDoorCtAmong
import Derived.Test.YtiihalknffbjpaaGreatDoorCtMap
import Derived.Test.YtiihalknffbjpaaGreatDoorCtRead
import Derived.Test.YtiihalknffbjpaaGreatDoorCtReadP
import Derived.Test.YtiihalknffbjpaaGreatDoorSvMixP
import Derived.Test.YtiihalknffbjpaaGreatDoorWyCheap
import Derived.Test.YtiihalknffbjpaaGreatDoorRlRules
set_option maxHeartbeats 4000000
set_option maxRecDepth 100000
namespace Go.Proofs.YtiihalknffbjpaaGreatDoor
open Go.RowKit Go.Shelf Sv
theorem rline_any (s:ByteArray) (w:World) (hs:s.size<=100000) (hw:Lb w) (hF:FineR w) (ad:Addr) (cap:Nat) (hK:KindsAt w ad cap):Calls Tryz.prog 56 #[.string s] w (RlRes w (lineF s)):=by
 have h4:=kindF_le (cutF s 32).1
 have h:kindF (cutF s 32).1=0\/kindF (cutF s 32).1=1\/kindF (cutF s 32).1=2\/kindF (cutF s 32).1=3\/kindF (cutF s 32).1=4:=by omega
 unfold lineF
 rcases h with h | h | h | h | h
 ·rw [h];exact rline_none s w hs hw hF ad cap hK h
 ·rw [h,if_neg (by decide),if_neg (by decide)]
  cases hv:versF (cutF (cutF (cutF s 32).2 32).2 32).1 with
  | error ke=>exact rline_ver s w hs hw hF ad cap hK 1 (Or.inl rfl) h ke hv
  | ok ns =>
   obtain ⟨a,b,c,rfl⟩:=len3 (versF_len hv).1
   simp only [if_pos]
   by_cases hr:(cutF (cutF (cutF s 32).2 32).2 32).2.size=0
   ·rw [if_pos hr];exact rline_pkg s w hs hw hF ad cap hK h a b c hv hr
   ·rw [if_neg hr];exact rline_pkg_bad s w hs hw hF ad cap hK h a b c hv hr
 ·rw [h,if_neg (by decide),if_neg (by decide)]
  cases hv:versF (cutF (cutF (cutF s 32).2 32).2 32).1 with
  | error ke=>exact rline_ver s w hs hw hF ad cap hK 2 (Or.inr (Or.inl rfl)) h ke hv
  | ok ns =>
   obtain ⟨a,b,c,rfl⟩:=len3 (versF_len hv).1
   simp only
   rw [if_neg (by decide)]
   unfold tailF
   cases hr:rngF (cutF (cutF (cutF (cutF s 32).2 32).2 32).2 32).2 with
   | error q=>obtain ⟨q,o⟩:=q;exact rline_pair_bad s w hs hw hF ad cap hK 2 (Or.inl rfl) h a b c hv q o hr
   | ok lo=>exact rline_pair s w hs hw hF ad cap hK 2 (Or.inl rfl) h a b c hv lo hr
 ·rw [h,if_neg (by decide),if_neg (by decide)]
  cases hv:versF (cutF (cutF (cutF s 32).2 32).2 32).1 with
  | error ke=>exact rline_ver s w hs hw hF ad cap hK 3 (Or.inr (Or.inr rfl)) h ke hv
  | ok ns =>
   obtain ⟨a,b,c,rfl⟩:=len3 (versF_len hv).1
   simp only
   rw [if_neg (by decide)]
   unfold tailF
   cases hr:rngF (cutF (cutF (cutF (cutF s 32).2 32).2 32).2 32).2 with
   | error q=>obtain ⟨q,o⟩:=q;exact rline_pair_bad s w hs hw hF ad cap hK 3 (Or.inr rfl) h a b c hv q o hr
   | ok lo=>exact rline_pair s w hs hw hF ad cap hK 3 (Or.inr rfl) h a b c hv lo hr
 ·rw [h,if_neg (by decide),if_pos rfl]
  unfold tailF
  cases hr:rngF (cutF (cutF s 32).2 32).2 with
  | error q=>obtain ⟨q,o⟩:=q;exact rline_root_bad s w hs hw hF ad cap hK h q o hr
  | ok lo=>exact rline_root s w hs hw hF ad cap hK h lo hr
end Go.Proofs.YtiihalknffbjpaaGreatDoor
namespace Go.Proofs.YtiihalknffbjpaaGreatDoor
open Go.RowKit Go.Deep Go.Shelf Sv
theorem infoRLn:(Tryz.prog.info? 101).map (fun i=>(i.zero,i.size,i.bytes))=some (some (.agg #[.int .i64 0,.string ⟨#[]⟩,.int .i64 0,.int .i64 0,.int .i64 0,.string ⟨#[]⟩,.slice none 0 0]),7,88):=by kernel_rfl
theorem tp_len (l:List Span):(tp l).length=2 * l.length:=by
 induction l with
 | nil=>rfl
 | cons s r ih=>simp only [tp,List.length_cons,ih];omega
def RgsR (W:World) (ls:List Ln) (vs:List Value):Prop:=vs.length=ls.length/\∀ i,i<ls.length->NsAt W (vs.getD i undef) (tp (ls.getD i default).rng)/\Rg (ls.getD i default).rng
theorem RgsR.below {B:Nat} {w w':World} {l:List Ln} {vs:List Value} (h:RgsR w l vs) (hb:Below B w w') (hB:w.heap.size<=B):RgsR w' l vs:=⟨h.1,fun i hi=>⟨(h.2 i hi).1.below hb hB,(h.2 i hi).2⟩⟩
theorem rgsR_nil (w:World):RgsR w [] []:=⟨rfl,fun i h=>by simp at h⟩
theorem NsAt.lt' {w:World} {v:Value} {l:List Span} (h:NsAt w v (tp l)) (hl:0<l.length) {g:Nat} (hg:v.ownBlock=some g):g<w.heap.size:=by
 obtain ⟨g',cap,e,hlt,_⟩:=h.cells 0 (by rw [tp_len];omega)
 rw [e] at hg
 simp [Value.ownBlock] at hg
 omega
theorem RgN.newR {W:World} {ls:List Ln} {vs:List Value} (h:RgsR W ls vs) {b:Nat} (hb:W.heap.size<=b):RgN ls vs (some b):=fun i hi hl g hg e=>by
 have:=(h.2 i hi).1.lt' hl hg
 cases e
 omega
theorem NsAt.grown {W W':World} {v:Value} {l:List Span} {row:Option Nat} (h:NsAt W v (tp l)) (hg:W.grownBy W' row) (hn:0<l.length->∀ g,v.ownBlock=some g->some g ≠ row):NsAt W' v (tp l) :=
 ⟨h.form,fun i hi=>by
  obtain ⟨g,cap,e,hlt,c0⟩:=h.cells i hi
  have hne:=hn (by rw [tp_len] at hi;omega) g (by rw [e];rfl)
  exact ⟨g,cap,e,Nat.lt_of_lt_of_le hlt hg.size,(grown_cell hg hlt hne).trans c0⟩⟩
theorem RgsR.grown {W W':World} {ls:List Ln} {vs:List Value} {row:Option Nat} (h:RgsR W ls vs) (hg:W.grownBy W' row) (hn:RgN ls vs row):RgsR W' ls vs:=⟨h.1,fun i hi=>⟨(h.2 i hi).1.grown hg (hn i hi),(h.2 i hi).2⟩⟩
theorem RgsR.snoc {w:World} {l:List Ln} {vs:List Value} (h:RgsR w l vs) {x:Ln} {v:Value} (hv:NsAt w v (tp x.rng)) (hr:Rg x.rng):RgsR w (l++[x]) (vs++[v]):=by
 refine ⟨by simp [h.1],fun i hi=>?_⟩
 by_cases hl:i<l.length
 ·have e1:(l++[x]).getD i default=l.getD i default:=by simp [List.getD_eq_getElem?_getD,List.getElem?_append_left hl]
  have e2:(vs++[v]).getD i undef=vs.getD i undef:=by simp [List.getD_eq_getElem?_getD,List.getElem?_append_left (show i<vs.length by rw [h.1];exact hl)]
  rw [e1,e2];exact h.2 i hl
 ·obtain rfl:i=l.length:=by simp at hi;omega
  have e1:(l++[x]).getD l.length default=x:=by simp [List.getD_eq_getElem?_getD]
  have e2:(vs++[v]).getD l.length undef=v:=by simp [List.getD_eq_getElem?_getD,<- h.1]
  rw [e1,e2];exact ⟨hv,hr⟩
structure RPS (W0 W:World) (lv sv:Value) (ls:List Ln) (vs:List Value) (ss:List Nat):Prop where
 lrow:W.ownsRow W0.heap.size 101 7 lv ls.length (lnCells ls vs)
 srow:W.ownsRow W0.heap.size 3 1 sv ss.length (icells (ss.map fun (k:Nat)=>(k:Int)))
 rg:RgsR W ls vs
 nl:RgN ls vs lv.ownBlock
 ns:RgN ls vs sv.ownBlock
 lo:∀ k,k<W0.heap.size->RgN ls vs (some k)
 B:Below W0.heap.size W0 W
theorem RPS.start (W0:World):RPS W0 W0 (.slice none 0 0) (.slice none 0 0) [] [] []:=⟨World.ownsRow_nil _ _ _ _,World.ownsRow_nil _ _ _ _,rgsR_nil _,RgN.nil _,RgN.nil _,fun _ _=>RgN.nil _,Below.refl _ _⟩
theorem RPS.step {W0 W W':World} {lv sv:Value} {ls:List Ln} {vs:List Value} {ss:List Nat} (h:RPS W0 W lv sv ls vs ss) (hb:Below W.heap.size W W'):RPS W0 W' lv sv ls vs ss :=
 ⟨row_new' h.lrow hb,row_new' h.srow hb,h.rg.below hb (Nat.le_refl _),h.nl,h.ns,h.lo,h.B.trans (hb.mono h.B.size)⟩
theorem RPS.appL {W0 W w':World} {lv lv' sv v:Value} {ls:List Ln} {vs:List Value} {ss:List Nat} {x:Ln} (h:RPS W0 W lv sv ls vs ss) (hv:NsAt W v (tp x.rng)) (hrg:Rg x.rng) (hn:0<x.rng.length->∀ g,v.ownBlock=some g->W0.heap.size<=g/\some g ≠ lv.ownBlock/\some g ≠ sv.ownBlock)
  (hown:w'.ownsRow W0.heap.size 101 7 lv' (ls.length + 1) (lnCells ls vs++encLn x v)) (hg:W.grownBy w' lv.ownBlock) (hloc:lv'.ownBlock=lv.ownBlock\/lv'.ownBlock=some W.heap.size):RPS W0 w' lv' sv (ls++[x]) (vs++[v]) ss:=by
 have hx:0<x.rng.length->∀ g,v.ownBlock=some g->some g ≠ lv.ownBlock:=fun h1 g h2=>(hn h1 g h2).2.1
 have rg1:RgsR w' (ls++[x]) (vs++[v]):=(h.rg.grown hg h.nl).snoc (hv.grown hg hx) hrg
 refine ⟨?_,row_grown' h.srow hg (ownBlocks_ne h.srow h.lrow (by decide)),rg1,?_,h.ns.snoc h.rg.1 (fun h1 g h2=>(hn h1 g h2).2.2),fun k hk=>(h.lo k hk).snoc h.rg.1 (fun h1 g h2 e=>by have:=(hn h1 g h2).1;cases e;omega),h.B.grown hg h.B.size (fun k hk=>(h.lrow.lt k hk).1)⟩
 ·rw [lnCells_snoc _ _ _ _ h.rg.1,List.length_append]
  exact hown
 ·rcases hloc with e | e
  ·rw [e];exact h.nl.snoc h.rg.1 hx
  ·rw [e]
   refine (RgN.newR h.rg (Nat.le_refl _)).snoc h.rg.1 (fun h1 g h2 e2=>?_)
   have:=hv.lt' h1 h2
   cases e2
   omega
theorem RPS.appS {W0 W w':World} {lv sv sv':Value} {ls:List Ln} {vs:List Value} {ss:List Nat} {k:Nat} (h:RPS W0 W lv sv ls vs ss)
  (hown:w'.ownsRow W0.heap.size 3 1 sv' (ss.length + 1) (icells (ss.map fun (k:Nat)=>(k:Int))++[.int .i64 (k:Int)])) (hg:W.grownBy w' sv.ownBlock) (hloc:sv'.ownBlock=sv.ownBlock\/sv'.ownBlock=some W.heap.size):RPS W0 w' lv sv' ls vs (ss++[k]):=by
 refine ⟨row_grown' h.lrow hg (ownBlocks_ne h.lrow h.srow (by decide)),?_,h.rg.grown hg h.ns,h.nl,?_,h.lo,h.B.grown hg h.B.size (fun k hk=>(h.srow.lt k hk).1)⟩
 ·rw [List.map_append,List.length_append]
  have e:icells (List.map (fun (k:Nat)=>(k:Int)) ss++List.map (fun (k:Nat)=>(k:Int)) [k])=icells (ss.map fun (k:Nat)=>(k:Int))++[.int .i64 (k:Int)]:=by rw [List.map_cons,List.map_nil,icells_snoc]
  rw [e]
  exact hown
 ·rcases hloc with e | e
  ·rw [e];exact h.ns
  ·rw [e];exact RgN.newR h.rg (Nat.le_refl _)
theorem NsAt.one' {W:World} {b:Nat} {v x:Value} {l:List Span} {i:Nat} (h:NsAt W v (tp l)) (hn:0<l.length->∀ g,v.ownBlock=some g->some g ≠ some b):NsAt (W.setCell ⟨b,i,none⟩ x) v (tp l) :=
 ⟨h.form,fun j hj=>by
  obtain ⟨g,cap,e,hg,c0⟩:=h.cells j hj
  have hne:g ≠ b:=fun e'=>hn (by rw [tp_len] at hj;omega) g (by rw [e];rfl) (by rw [e'])
  exact ⟨g,cap,e,by simp [World.setCell];exact hg,(cell_set_other hne).trans c0⟩⟩
theorem RPS.rlsSet {W0 W:World} {lv sv x y:Value} {ls:List Ln} {vs:List Value} {ss:List Nat} {b i j:Nat} (h:RPS W0 W lv sv ls vs ss) (hb:b<W0.heap.size):RLs ((W.setCell ⟨b,i,none⟩ x).setCell ⟨b,j,none⟩ y) lv ls :=
 ⟨vs,⟨h.rg.1,fun k hk=>⟨((h.rg.2 k hk).1.one' (h.lo b hb k hk)).one' (h.lo b hb k hk),(h.rg.2 k hk).2⟩⟩,rowAt_own (row_setLow (row_setLow h.lrow hb) hb)⟩
theorem RPS.rls {W0 W:World} {lv sv:Value} {ls:List Ln} {vs:List Value} {ss:List Nat} (h:RPS W0 W lv sv ls vs ss):RLs W lv ls:=⟨vs,h.rg,rowAt_own h.lrow⟩
theorem filter_take {L:List (Nat × ByteArray)} {k:Nat} (hk:k<L.length):(L.take (k + 1)).filter (fun x=>decide (x.2.size ≠ 0))=(L.take k).filter (fun x=>decide (x.2.size ≠ 0))++(if (px L k).2.size=0 then [] else [px L k]):=by
 rw [List.take_succ_eq_append_getElem hk,List.filter_append,px_at L k hk]
 congr 1
 rw [List.filter_cons,List.filter_nil]
 by_cases h:(L[k]).2.size=0
 ·rw [if_neg (by simp [h]),if_pos h]
 ·rw [if_pos (decide_eq_true h),if_neg h]
theorem pl_take {L:List (Nat × ByteArray)} {k:Nat} (hk:k<L.length) {acc:List (Nat × Ln)} (h:plF ((L.take k).filter (fun x=>decide (x.2.size ≠ 0))) []=.ok acc) :
  plF ((L.take (k + 1)).filter (fun x=>decide (x.2.size ≠ 0))) []=if (px L k).2.size=0 then .ok acc else match lineF (px L k).2 with
   | .error e=>.error (e.1,(px L k).1)
   | .ok l=>.ok (acc++[((px L k).1,l)]):=by
 rw [filter_take hk,plF_app,h]
 simp only
 by_cases h0:(px L k).2.size=0
 ·rw [if_pos h0,if_pos h0];rfl
 ·rw [if_neg h0,if_neg h0,plF]
  cases lineF (px L k).2 with
  | error e=>rfl
  | ok l=>rfl
theorem pl_err {L:List (Nat × ByteArray)} {k:Nat} {e:Int × Nat} (h:plF ((L.take k).filter (fun x=>decide (x.2.size ≠ 0))) []=.error e):plF (L.filter (fun x=>decide (x.2.size ≠ 0))) []=.error e:=by
 conv=>lhs;rw [<- List.take_append_drop k L,List.filter_append,plF_app,h]
end Go.Proofs.YtiihalknffbjpaaGreatDoor
namespace Go.Proofs.YtiihalknffbjpaaGreatDoor
open Go.RowKit Go.Shelf Sv
theorem tailF_err {k:Nat} {nm:ByteArray} {ns:List Nat} {ot rest:ByteArray} {q:Int} {o:Option Nat} (h:tailF k nm ns ot rest=.error (q,o)):q ≠ 0:=by
 unfold tailF at h
 split at h
 ·rename_i e hx;cases h;exact rngF_err hx
 ·cases h
theorem lineF_err {s:ByteArray} {q:Int} {o:Option Nat} (h:lineF s=.error (q,o)):q ≠ 0:=by
 unfold lineF at h
 split at h
 ·cases h;decide
 ·split at h
  ·exact tailF_err h
  ·split at h
   ·rename_i hx;cases h;exact versF_err hx
   ·split at h
    ·split at h
     ·cases h
     ·cases h;decide
    ·exact tailF_err h
end Go.Proofs.YtiihalknffbjpaaGreatDoor
namespace Go.Proofs.YtiihalknffbjpaaGreatDoor
open Go.RowKit Go.Deep Go.Shelf Sv
theorem gathF_err:∀ (ls:List Ln) (i:Nat) (its:List It) (k:Int) (j:Nat),gathF ls i its=.error (k,j)->k ≠ 0:=by
 intro ls
 induction ls with
 | nil=>intro i its k j h;cases h
 | cons x r ih =>
  intro i its k j h
  unfold gathF at h
  split at h
  ·rename_i hz;cases h;exact hz
  ·split at h
   ·split at h
    ·cases h;decide
    ·split at h
     ·cases h;decide
     ·exact ih _ _ _ _ h
   ·exact ih _ _ _ _ h
theorem newF_err {ls:List Ln} {q:Int} {o:Option Nat} (h:newF ls=.error (q,o)):q ≠ 0:=by
 unfold newF at h
 split at h
 ·cases h;decide
 ·split at h
  ·rename_i e he
   obtain ⟨e1,e2⟩:=e
   cases h
   exact gathF_err _ _ _ _ _ he
  ·split at h
   ·cases h;decide
   ·cases h
def RcRes (w:World) (r:Except (Int × Option Nat) (List Ln × List It)) (e:Ending) (w':World):Prop :=
 ∃ (v:Value) (k p:Int),e=.returned (.tuple #[v,.agg #[.int .i64 k,.int .i64 p]])/\Below w.heap.size w w'/\match r with
  | .ok (ls,_)=>RLs w' v ls/\k=0/\p=-1
  | .error (q,o)=>v=.slice none 0 0/\k=q/\p=placeO o
theorem rcatp_long (s:ByteArray) (w:World) (h:20000<s.size):Calls Tryz.prog 71 #[.string s] w (RcRes w (.error (4,none))):=by
 have h':(20000:Int)<(s.size:Int):=by omega
 have HBR:=Lib.hid (refBare 4 (w.alloc (.cells #[.int .i64 0,.int .i64 0] 96)))
 have kf:=Blk.new w 96 #[.int .i64 0,.int .i64 0]
 have hbf:Below w.heap.size w (w.alloc (.cells #[.int .i64 0,.int .i64 0] 96)):=(Below.refl _ w).alloc (Nat.le_refl _) _
 clear h
 go_enter Tryz.func71,Tryz.ntmps71
 go_wp2_with fail
 refine HBR.out.mono ?_
 rintro e w1 ⟨rfl,hb1⟩
 have kf1:=kf.below hb1 kf.lt
 have hB1:=hbf.trans (hb1.mono hbf.size)
 have q0:w1.cell? ⟨w.heap.size,0,none⟩=some (.int .i64 0):=kf1.cell 0
 have q1:w1.cell? ⟨w.heap.size,1,none⟩=some (.int .i64 0):=kf1.cell 1
 have q2:=kf1.frozen 0
 have q3:=kf1.frozen 1
 obtain ⟨⟨p0,p1⟩,p2,p3,p4⟩:=put2 kf1 hB1 (Nat.le_refl _) 4 (-1)
 have P2:=Lib.hid p2
 have P3:=Lib.hid p3
 have P4:=Lib.hid p4
 clear p2 p3 p4
 clear kf kf1 hbf hb1 HBR hB1
 go_wp2
 exact bodyPost_ret (v:=.tuple #[.slice none 0 0,.agg #[.int .i64 4,.int .i64 (-1)]]) (by simp [results,Tryz.results71,go_sem,P2.out,P3.out]) rfl ⟨_,_,_,rfl,P4.out,rfl,rfl,rfl⟩
theorem piece_cell {L:List (Nat × ByteArray)} {k:Nat} (hk:k<L.length):(((L.map (·.2)).map Value.string).toArray)[k]?=some (.string (px L k).2):=by
 rw [px_at L k hk]
 simp [hk]
def PInv (L:List (Nat × ByteArray)) (W0:World) (lV sV aV kV:Value) (wz:World):Prop:=∃ (k a:Nat) (acc:List (Nat × Ln)) (vs:List Value),k<=L.length/\kV=.int .i64 (k:Int)/\aV=.int .i64 (a:Int)/\a<=30000/\(k<L.length->a=(px L k).1)/\acc.length<=k/\plF ((L.take k).filter (fun x=>decide (x.2.size ≠ 0))) []=.ok acc/\RPS W0 wz lV sV (acc.map Prod.snd) vs (acc.map Prod.fst)
theorem rcatp_any (s:ByteArray) (w:World) (hw:Lb w) (hF:FineR w) (ad:Addr) (cap:Nat) (hK:KindsAt w ad cap):Calls Tryz.prog 71 #[.string s] w (RcRes w (parseF s)):=by
 by_cases hs:20000<s.size
 ·have e:parseF s=.error (4,none):=by unfold parseF;rw [if_pos hs]
  rw [e];exact rcatp_long s w hs
 obtain ⟨R,hR⟩:∃ R,parseF s=R:=⟨_,rfl⟩
 rw [hR]
 have hR2:=hR
 unfold parseF at hR2
 rw [if_neg hs,lns_cut s s.size 0 (by omega) (Nat.zero_le _)] at hR2
 have hcu:=cuts_of s ⟨#[10]⟩
 have HSP:=Lib.hid (split_gen s ⟨#[10]⟩ (by decide) (w.alloc (.cells #[.int .i64 0,.int .i64 0] 96)) (by omega) (hw.below ((Below.refl _ w).alloc (Nat.le_refl _) _)))
 generalize cutB s ⟨#[10]⟩ s.size 0=L at *
 have HCU:=Lib.hid hcu
 have HR:=Lib.hid hR2
 have HW:=Lib.hid hw
 have HFN:=Lib.hid hF
 have HKD:=Lib.hid hK
 have hs':¬ (20000:Int)<(s.size:Int):=by omega
 have hLl:=hcu.len
 have kf:=Blk.new w 96 #[.int .i64 0,.int .i64 0]
 have hbf:Below w.heap.size w (w.alloc (.cells #[.int .i64 0,.int .i64 0] 96)):=(Below.refl _ w).alloc (Nat.le_refl _) _
 clear hR hR2 hcu hw hF hK
 obtain ⟨i0,hin,hz0,hz1,hz2⟩:=info_parts infoRLn
 obtain ⟨i1,hin1,hy0,hy1,hy2⟩:=info_parts infoInt
 go_enter Tryz.func71,Tryz.ntmps71
 go_wp2_with fail
 refine HSP.out.mono ?_
 rintro e W0 ⟨rfl,hpc,hb0⟩
 have HKF:Hid (Blk W0 w.heap.size 96 #[.int .i64 0,.int .i64 0]):=kf.below hb0 kf.lt
 have HPC:=Lib.hid hpc
 have HB0:Hid (Below w.heap.size w W0):=hbf.trans (hb0.mono hbf.size)
 clear kf hbf hpc hb0 HSP
 rw [World.size_alloc] at HPC
 simp only [World.size_alloc]
 go_wp2_with fail
 go_loopw [4,5,6,19] (fun lV sV aV kV wz=>PInv L W0 lV sV aV kV wz) (fun _ _ _ kV _=>L.length - (intOf kV).toNat)
 case atStart=>exact ⟨0,0,[],[],Nat.zero_le _,rfl,rfl,by omega,fun _=>HCU.out.first.symm,Nat.le_refl _,rfl,RPS.start _⟩
 case round =>
  obtain ⟨k,a,acc,vs,hk,rfl,rfl,ha,hak,hacl,hpl,hps⟩:=hrel
  obtain ⟨ls,hls⟩:∃ ls,acc.map Prod.snd=ls:=⟨_,rfl⟩
  obtain ⟨ss,hss⟩:∃ ss,acc.map Prod.fst=ss:=⟨_,rfl⟩
  have hl2:ls.length<=k:=by rw [<- hls,List.length_map];exact hacl
  have hl1:ss.length<=k:=by rw [<- hss,List.length_map];exact hacl
  rw [hls,hss] at hps
  have HLS:=Lib.hid hls
  have HSS:=Lib.hid hss
  clear hls hss
  obtain ⟨lva,lvc,rfl,-⟩:=(rowAt_own hps.lrow).form
  obtain ⟨sva,svc,rfl,-⟩:=(rowAt_own hps.srow).form
  by_cases hlt:k<L.length
  ·have hroom:=HCU.out.room k hlt
   have hnext:=HCU.out.next k
   have ea:=hak hlt
   have htk:=pl_take hlt hpl
   have cp:wr.cell? ⟨w.heap.size + 1,k,none⟩=some (.string (px L k).2):=((HPC.out.below hps.B HPC.out.lt).cell k).trans (piece_cell hlt)
   have hm:(⟨#[10]⟩:ByteArray).size=1:=rfl
   rw [hm] at hnext
   have HTK:=Lib.hid htk
   have HPS:=Lib.hid hps
   clear htk hpl hps hak hm
   obtain ⟨pl,hpl⟩:∃ pl,(px L k).1=pl:=⟨_,rfl⟩
   obtain ⟨pc,hpc⟩:∃ pc,(px L k).2=pc:=⟨_,rfl⟩
   rw [hpl,hpc] at hroom hnext HTK
   rw [hpl] at ea
   rw [hpc] at cp
   clear hpl hpc
   subst ea
   have hnx:=Lib.hid hnext
   clear hnext
   by_cases h0:pc.size=0
   ·obtain rfl:=bytes_empty h0
    have HT2:Hid (plF ((L.take (k + 1)).filter (fun x=>decide (x.2.size ≠ 0))) []=.ok acc):=by have h:=HTK.out;rw [if_pos (show (⟨#[]⟩:ByteArray).size=0 from rfl)] at h;exact h
    clear HTK h0
    clear hin hz0 hz1 hz2 hin1 hy0 hy1 hy2
    go_wp2
    go_roundw
    case rel=>exact ⟨k + 1,a + 1,acc,vs,by omega,by go_num,by go_num,by omega,fun h=>(hnx.out h).symm,by omega,HT2.out,by rw [HLS.out,HSS.out];exact HPS.out⟩
    case measure=>simp [intOf];omega
   ·have he1:pc.toList.isEmpty=false:=bytes_not_empty (by omega)
    have he2:(pc.toList == [])=false:=by rw [beq_eq_false_iff_ne];intro h;rw [h] at he1;cases he1
    have hBw:=HB0.out.trans (HPS.out.B.mono HB0.out.size)
    have HLP:=Lib.hid (rline_any pc wr (by omega) (HW.out.below hBw) (HFN.out.below hBw) ad cap (HKD.out.below hBw))
    rw [if_neg h0] at HTK
    clear hBw
    go_wp2_with fail
    refine HLP.out.mono ?_
    rintro e w1 ⟨x,ra,rc,q,p,rfl,hns,hrg,hnew,hb1,hok⟩
    have hps1:=HPS.out.step hb1
    have hA:Below w1.heap.size w1 ((w1.alloc (.cells #[.int .i64 x.kind,.string x.name,.int .i64 x.a,.int .i64 x.b,.int .i64 x.c,.string x.other,.slice ra (tp x.rng).length rc] 101)).alloc (.cells #[.int .i64 q,.int .i64 p] 96)):=((Below.refl _ w1).alloc (Nat.le_refl _) _).alloc (by simp) _
    have kl:=(Blk.new w1 101 #[.int .i64 x.kind,.string x.name,.int .i64 x.a,.int .i64 x.b,.int .i64 x.c,.string x.other,.slice ra (tp x.rng).length rc]).alloc (.cells #[.int .i64 q,.int .i64 p] 96)
    have kq:=Blk.new (w1.alloc (.cells #[.int .i64 x.kind,.string x.name,.int .i64 x.a,.int .i64 x.b,.int .i64 x.c,.string x.other,.slice ra (tp x.rng).length rc] 101)) 96 #[.int .i64 q,.int .i64 p]
    rw [World.size_alloc] at kq
    have HP2:=Lib.hid (hps1.step hA)
    have HNS:=Lib.hid (hns.below hA (Nat.le_refl _))
    have HRG:=Lib.hid hrg
    have HNW:=Lib.hid hnew
    have HOK:=Lib.hid hok
    have HKL:=Lib.hid kl
    have HKQ:=Lib.hid kq
    have hwr:=hb1.size
    clear hps1 hA kl kq hns hrg hnew hok hb1 HLP cp
    go_upto_region 11 with fail
    generalize (w1.alloc (.cells #[.int .i64 x.kind,.string x.name,.int .i64 x.a,.int .i64 x.b,.int .i64 x.c,.string x.other,.slice ra (tp x.rng).length rc] 101)).alloc (.cells #[.int .i64 q,.int .i64 p] 96)=W2 at *
    have k0:W2.cell? ⟨w1.heap.size + 1,0,none⟩=some (.int .i64 q):=HKQ.out.cell 0
    have k1:W2.cell? ⟨w1.heap.size + 1,1,none⟩=some (.int .i64 p):=HKQ.out.cell 1
    cases hlf:lineF pc with
    | error e =>
     obtain ⟨q',o⟩:=e
     have hq0:=lineF_err hlf
     have h1:=HOK.out
     have h2:=HTK.out
     rw [hlf] at h1 h2
     obtain ⟨rfl,rfl,rfl⟩:=h1
     have HRE:Hid (R=.error (q,some a)):=by show _=_;rw [<- HR.out,pl_err h2]
     have hq1:(q == 0)=false:=by rw [beq_eq_false_iff_ne];exact hq0
     have kf2:Blk W2 w.heap.size 96 #[.int .i64 0,.int .i64 0]:=HKF.out.below HP2.out.B HKF.out.lt
     have hB2:Below w.heap.size w W2:=HB0.out.trans (HP2.out.B.mono HB0.out.size)
     have q0:W2.cell? ⟨w.heap.size,0,none⟩=some (.int .i64 0):=kf2.cell 0
     have q1:W2.cell? ⟨w.heap.size,1,none⟩=some (.int .i64 0):=kf2.cell 1
     have q2:=kf2.frozen 0
     have q3:=kf2.frozen 1
     obtain ⟨⟨p0,p1⟩,p2,p3,p4⟩:=put2 kf2 hB2 (Nat.le_refl _) q (a:Int)
     have P2:=Lib.hid p2
     have P3:=Lib.hid p3
     have P4:=Lib.hid p4
     clear p2 p3 p4
     clear hlf h2 hq0 HTK HR HOK HPS
     go_wp2_with fail
     go_region
     go_wp2
     exact bodyPost_ret (v:=.tuple #[.slice none 0 0,.agg #[.int .i64 q,.int .i64 (a:Int)]]) (by simp [results,Tryz.results71,go_sem,P2.out,P3.out]) rfl (by rw [HRE.out];exact ⟨_,_,_,rfl,P4.out.drew,rfl,rfl,rfl⟩)
    | ok y =>
     have h1:=HOK.out
     have h2:=HTK.out
     rw [hlf] at h1 h2
     obtain ⟨rfl,rfl,rfl⟩:=h1
     have HT2:Hid (plF ((L.take (k + 1)).filter (fun x=>decide (x.2.size ≠ 0))) []=.ok (acc++[(a,x)])):=h2
     have d0:W2.cell? ⟨w1.heap.size,0,none⟩=some (.int .i64 x.kind):=HKL.out.cell 0
     have d1:W2.cell? ⟨w1.heap.size,1,none⟩=some (.string x.name):=HKL.out.cell 1
     have d2:W2.cell? ⟨w1.heap.size,2,none⟩=some (.int .i64 x.a):=HKL.out.cell 2
     have d3:W2.cell? ⟨w1.heap.size,3,none⟩=some (.int .i64 x.b):=HKL.out.cell 3
     have d4:W2.cell? ⟨w1.heap.size,4,none⟩=some (.int .i64 x.c):=HKL.out.cell 4
     have d5:W2.cell? ⟨w1.heap.size,5,none⟩=some (.string x.other):=HKL.out.cell 5
     have d6:W2.cell? ⟨w1.heap.size,6,none⟩=some (.slice ra (tp x.rng).length rc):=HKL.out.cell 6
     have HROW:=Lib.hid HP2.out.lrow
     have hw2:=HP2.out.B.size
     have hwr0:=HPS.out.B.size
     have HLT:=Lib.hid HPS.out.lrow
     have HST:=Lib.hid HPS.out.srow
     clear hlf h2 HTK HOK HPS k1 HKQ HKL
     have hb3:Below W2.heap.size W2 (W2.alloc (.cells #[.int .i64 x.kind,.string x.name,.int .i64 x.a,.int .i64 x.b,.int .i64 x.c,.string x.other,.slice ra (tp x.rng).length rc] 101)):=(Below.refl _ _).alloc (Nat.le_refl _) _
     have HP3:=Lib.hid (HP2.out.step hb3)
     have HNS3:=Lib.hid (HNS.out.below hb3 (Nat.le_refl _))
     clear hb3
     go_wp2_with (at_builtin;refine wpList_append_own_at _ rfl _ _ 23 rfl W0.heap.size 101 i0 (.agg #[.int .i64 0,.string ⟨#[]⟩,.int .i64 0,.int .i64 0,.int .i64 0,.string ⟨#[]⟩,.slice none 0 0]) 7 88 Tryz.underlying23 hin hz0 hz1 hz2 rfl (by decide) _ _ _ rfl (HROW.out.alloc _) ⟨W2.heap.size,0,none⟩ 1 1 [.int .i64 x.kind,.string x.name,.int .i64 x.a,.int .i64 x.b,.int .i64 x.c,.string x.other,.slice ra (tp x.rng).length rc] rfl rfl ?c1 ?c2 ?c3 ?c4 ?c5 ?_)
     case c1=>exact cell_seven_new _ _ _ _ _ _ _ _ _
     case c2=>intro u hu;simp at hu;rcases hu with rfl | rfl | rfl | rfl | rfl | rfl | rfl <;> rfl
     case c3=>unfold maxLen;omega
     case c4=>omega
     case c5=>simp;omega
     intro v4 w4 hown4 hgrow4 _ hloc4
     have hn4:0<x.rng.length->∀ g,(Value.slice ra (tp x.rng).length rc).ownBlock=some g->W0.heap.size<=g/\some g ≠ (Value.slice lva ls.length lvc).ownBlock/\some g ≠ (Value.slice sva ss.length svc).ownBlock:=fun _ g hg=>⟨Nat.le_trans hwr0 (HNW.out g hg),fun e=>by have h1:=HNW.out g hg;have h2:=(HLT.out.lt g e.symm).2;omega,fun e=>by have h1:=HNW.out g hg;have h2:=(HST.out.lt g e.symm).2;omega⟩
     have hp4:=HP3.out.appL HNS3.out HRG.out hn4 hown4 hgrow4 (by rw [World.size_alloc];exact hloc4)
     obtain ⟨v4a,v4c,rfl,-⟩:=(rowAt_own hp4.lrow).form
     have HP4:=Lib.hid hp4
     have HROW4:=Lib.hid hp4.srow
     have hw4:=hp4.B.size
     have hb5:Below w4.heap.size w4 (w4.alloc (.cells #[.int .i64 (a:Int)] 3)):=(Below.refl _ _).alloc (Nat.le_refl _) _
     have HP5:=Lib.hid (hp4.step hb5)
     clear hown4 hgrow4 hloc4 hn4 hp4 hb5 HROW HP3 HP2 HNS HNS3 HRG HNW HLT HST d0 d1 d2 d3 d4 d5 d6
     go_wp2_with (at_builtin;refine wpList_append_own_at _ rfl _ _ 47 rfl W0.heap.size 3 i1 (.int .i64 0) 1 8 Tryz.underlying47 hin1 hy0 hy1 hy2 rfl (by decide) _ _ _ rfl (HROW4.out.alloc _) ⟨w4.heap.size,0,none⟩ 1 1 [.int .i64 (a:Int)] rfl rfl ?a1 ?a2 ?a3 ?a4 ?a5 ?_)
     case a1=>exact cell_lit _ _ _
     case a2=>exact one_lit _
     case a3=>unfold maxLen;omega
     case a4=>omega
     case a5=>simp;omega
     intro v6 w6 hown6 hgrow6 _ hloc6
     have HP6:=Lib.hid (HP5.out.appS (k:=a) hown6 hgrow6 (by rw [World.size_alloc];exact hloc6))
     clear hown6 hgrow6 hloc6 HP5 HP4 HROW4
     go_wp2
     go_roundw
     case rel=>exact ⟨k + 1,a + pc.size + 1,acc++[(a,x)],vs++[.slice ra (tp x.rng).length rc],by omega,by go_num,by go_num,by omega,fun h=>(hnx.out h).symm,by simp;omega,HT2.out,by have h:=HP6.out;rw [show (ls++[x]).length=ls.length + 1 by simp] at h;rw [List.map_append,List.map_append,HLS.out,HSS.out];exact h⟩
     case measure=>simp [intOf];omega
  ·obtain rfl:k=L.length:=by omega
   have hfull:plF (L.filter (fun x=>decide (x.2.size ≠ 0))) []=.ok acc:=by have h:=hpl;rw [List.take_length] at h;exact h
   have hB0:=HB0.out.trans (hps.B.mono HB0.out.size)
   have HCC:=Lib.hid (rcatc_any ls (.slice lva ls.length lvc) wr hps.rls (by omega) (HFN.out.below hB0))
   have HFU:=Lib.hid hfull
   have HP1:=Lib.hid hps
   clear hpl hfull hB0 hps HCU HPC hak hlt hacl hin hz0 hz1 hz2 hin1 hy0 hy1 hy2
   obtain ⟨NK,hNK⟩:∃ NK,newK (newF ls)=NK:=⟨_,rfl⟩
   rw [hNK] at HCC
   go_wp2_with fail
   refine HCC.out.mono ?_
   rintro e w1 ⟨rfl,hb1⟩
   have hA:Below w1.heap.size w1 (w1.alloc (.cells #[.int .i64 NK.1,.int .i64 NK.2] 96)):=(Below.refl _ _).alloc (Nat.le_refl _) _
   have kq:=Blk.new w1 96 #[.int .i64 NK.1,.int .i64 NK.2]
   have HP2:=Lib.hid ((HP1.out.step hb1).step hA)
   have HNK:=Lib.hid hNK
   have hbne:w.heap.size ≠ w1.heap.size:=by have h1:=HKF.out.lt;have h2:=HP1.out.B.size;have h3:=hb1.size;omega
   have hble:w.heap.size<=w1.heap.size:=by have h1:=HKF.out.lt;have h2:=HP1.out.B.size;have h3:=hb1.size;omega
   clear hA hb1 HCC HP1 hNK
   go_upto_region 17 with fail
   generalize w1.alloc (.cells #[.int .i64 NK.1,.int .i64 NK.2] 96)=W2 at *
   generalize w1.heap.size=bf at *
   have kf2:Blk W2 w.heap.size 96 #[.int .i64 0,.int .i64 0]:=HKF.out.below HP2.out.B HKF.out.lt
   have hB2:Below w.heap.size w W2:=HB0.out.trans (HP2.out.B.mono HB0.out.size)
   have k0:W2.cell? ⟨bf,0,none⟩=some (.int .i64 NK.1):=kq.cell 0
   have k1:W2.cell? ⟨bf,1,none⟩=some (.int .i64 NK.2):=kq.cell 1
   cases hn:newF ls with
   | ok its =>
    have h1:=HNK.out
    have h2:=HR.out
    rw [HFU.out] at h2
    simp only [HLS.out,hn] at h2
    rw [hn] at h1
    obtain rfl:(0,-1)=NK:=h1
    have HRE:Hid (R=.ok (ls,its)):=h2.symm
    have hf1:=HFN.out.below hB2
    have g0:=hf1.c0
    have g1:=hf1.c1
    have q0:W2.cell? ⟨w.heap.size,0,none⟩=some (.int .i64 0):=kf2.cell 0
    have q1:W2.cell? ⟨w.heap.size,1,none⟩=some (.int .i64 0):=kf2.cell 1
    have q2:=kf2.frozen 0
    have q3:=kf2.frozen 1
    obtain ⟨⟨p0,p1⟩,p2,p3,p4⟩:=put2 kf2 hB2 (Nat.le_refl _) 0 (-1)
    have P2:=Lib.hid p2
    have P3:=Lib.hid p3
    have P4:=Lib.hid p4
    clear p2 p3 p4
    have HRL:Hid (RLs ((W2.setCell ⟨w.heap.size,0,none⟩ (.int .i64 0)).setCell ⟨w.heap.size,1,none⟩ (.int .i64 (-1))) (.slice lva ls.length lvc) ls):=HP2.out.rlsSet HKF.out.lt
    clear h2 hn hf1 kq kf2 HKF HNK HP2 hB2
    go_wp2_with fail
    go_region
    go_wp2
    exact bodyPost_ret (v:=.tuple #[.slice lva ls.length lvc,.agg #[.int .i64 0,.int .i64 (-1)]]) (by simp [results,Tryz.results71,go_sem,P2.out,P3.out]) rfl (by rw [HRE.out];exact ⟨_,_,_,rfl,P4.out.drew,HRL.out.below (Below.refl _ _).drew (Nat.le_refl _),rfl,rfl⟩)
   | error e =>
    obtain ⟨q,o⟩:=e
    have hq0:=newF_err hn
    cases o with
    | none =>
     have h1:=HNK.out
     have h2:=HR.out
     rw [HFU.out] at h2
     simp only [HLS.out,hn] at h2
     rw [hn] at h1
     obtain rfl:(q,-1)=NK:=h1
     have HRE:Hid (R=.error (q,none)):=h2.symm
     have hq1:(q == 0)=false:=by rw [beq_eq_false_iff_ne];exact hq0
     simp only at k0 k1
     have q0:W2.cell? ⟨w.heap.size,0,none⟩=some (.int .i64 0):=kf2.cell 0
     have q1:W2.cell? ⟨w.heap.size,1,none⟩=some (.int .i64 0):=kf2.cell 1
     have q2:=kf2.frozen 0
     have q3:=kf2.frozen 1
     obtain ⟨⟨p0,p1⟩,p2,p3,p4⟩:=put2 kf2 hB2 (Nat.le_refl _) q (-1)
     have P2:=Lib.hid p2
     have P3:=Lib.hid p3
     have P4:=Lib.hid p4
     clear p2 p3 p4
     clear h2 hn kq kf2 HKF HNK HP2 hB2 hq0
     go_wp2_with fail
     go_region
     go_wp2
     exact bodyPost_ret (v:=.tuple #[.slice none 0 0,.agg #[.int .i64 q,.int .i64 (-1)]]) (by simp [results,Tryz.results71,go_sem,P2.out,P3.out]) rfl (by rw [HRE.out];exact ⟨_,_,_,rfl,P4.out.drew,rfl,rfl,rfl⟩)
    | some i =>
     have hil:=newF_lt hn
     have h1:=HNK.out
     have h2:=HR.out
     rw [HFU.out] at h2
     simp only [HLS.out,HSS.out,hn] at h2
     rw [hn] at h1
     obtain rfl:(q,(i:Int))=NK:=h1
     have hq1:(q == 0)=false:=by rw [beq_eq_false_iff_ne];exact hq0
     have hsl:ss.length=ls.length:=by rw [<- HLS.out,<- HSS.out,List.length_map,List.length_map]
     have his:i<ss.length:=by omega
     obtain ⟨g,cap',e1,hg,hc⟩:=(rowAt_own HP2.out.srow).cells (by omega)
     simp at e1
     obtain ⟨rfl,rfl⟩:=e1
     obtain ⟨Pi,hPi⟩:∃ Pi,ss.getD i 0=Pi:=⟨_,rfl⟩
     have ci:W2.cell? ⟨g,i,none⟩=some (.int .i64 (Pi:Int)):=hc i _ (by rw [<- hPi];simp [icells,his])
     rw [hPi] at h2
     have HRE:Hid (R=.error (q,some Pi)):=h2.symm
     simp only at k0 k1
     have fz1:=kq.frozen 1
     have kq3:Blk (W2.setCell ⟨bf,1,none⟩ (.int .i64 (Pi:Int))) bf 96 #[.int .i64 q,.int .i64 (Pi:Int)]:=kq.set (i:=1)
     have kf3:Blk (W2.setCell ⟨bf,1,none⟩ (.int .i64 (Pi:Int))) w.heap.size 96 #[.int .i64 0,.int .i64 0]:=kf2.other hbne
     have hB3:Below w.heap.size w (W2.setCell ⟨bf,1,none⟩ (.int .i64 (Pi:Int))):=hB2.setCell hble _
     have HQ3:=Lib.hid kq3
     have HF3:=Lib.hid kf3
     have HB3:=Lib.hid hB3
     clear h2 hn kq kf2 HKF HNK HP2 hB2 hq0 hPi hc kq3 kf3 hB3 hsl
     go_upto_region 20 with fail
     generalize W2.setCell ⟨bf,1,none⟩ (.int .i64 (Pi:Int))=W3 at *
     clear k0 k1 ci fz1
     have k0:W3.cell? ⟨bf,0,none⟩=some (.int .i64 q):=HQ3.out.cell 0
     have k1:W3.cell? ⟨bf,1,none⟩=some (.int .i64 (Pi:Int)):=HQ3.out.cell 1
     have q0:W3.cell? ⟨w.heap.size,0,none⟩=some (.int .i64 0):=HF3.out.cell 0
     have q1:W3.cell? ⟨w.heap.size,1,none⟩=some (.int .i64 0):=HF3.out.cell 1
     have q2:=HF3.out.frozen 0
     have q3:=HF3.out.frozen 1
     obtain ⟨⟨p0,p1⟩,p2,p3,p4⟩:=put2 HF3.out HB3.out (Nat.le_refl _) q (Pi:Int)
     have P2:=Lib.hid p2
     have P3:=Lib.hid p3
     have P4:=Lib.hid p4
     clear p2 p3 p4
     go_region
     go_wp2
     exact bodyPost_ret (v:=.tuple #[.slice none 0 0,.agg #[.int .i64 q,.int .i64 (Pi:Int)]]) (by simp [results,Tryz.results71,go_sem,P2.out,P3.out]) rfl (by rw [HRE.out];exact ⟨_,_,_,rfl,P4.out.drew,rfl,rfl,rfl⟩)
end Go.Proofs.YtiihalknffbjpaaGreatDoor
namespace Go.Proofs.YtiihalknffbjpaaGreatDoor
open Go.RowKit Go.Deep Sv
noncomputable def bothF (s:ByteArray):Option (List Ln × List It):=if 1500<s.size then none else match parseF s with
 | .error _=>none
 | .ok r=>some r
theorem bothF_new {s:ByteArray} {ls:List Ln} {its:List It} (h:bothF s=some (ls,its)):newF ls=.ok its:=by
 unfold bothF at h
 split at h
 ·cases h
 ·split at h
  ·cases h
  ·rename_i r hr
   cases h
   exact parseF_ok hr
def BothRes (w:World) (r:Option (List Ln × List It)) (e:Ending) (w':World):Prop :=
 match r with
 | none=>e=.returned (.tuple #[.pointer none,.slice none 0 0,.bool false])/\Below w.heap.size w w'
 | some (ls,its)=>∃ bc v,e=.returned (.tuple #[.pointer (some ⟨bc,0,none⟩),v,.bool true])/\CatAt w' bc ls its/\RLs w' v ls/\Below w.heap.size w w'
theorem plF_errB:∀ (l:List (Nat × ByteArray)) (acc:List (Nat × Ln)) (q:Int) (i:Nat),plF l acc=.error (q,i)->q ≠ 0:=by
 intro l
 induction l with
 | nil=>intro acc q i h;cases h
 | cons x r ih =>
  intro acc q i h
  unfold plF at h
  split at h
  ·rename_i e he
   obtain ⟨e1,e2⟩:=e
   cases h
   exact lineF_err he
  ·exact ih _ _ _ h
theorem parseF_errB {s:ByteArray} {q:Int} {o:Option Nat} (h:parseF s=.error (q,o)):q ≠ 0:=by
 unfold parseF at h
 split at h
 ·cases h;decide
 ·split at h
  ·rename_i e he
   obtain ⟨e1,e2⟩:=e
   cases h
   exact plF_errB _ _ _ _ he
  ·split at h
   ·rename_i he;cases h;exact newF_err he
   ·rename_i he;cases h;exact newF_err he
   ·cases h
theorem both_c (s:ByteArray) (w:World) (hw:Lw w) (hF:FineR w) (ad:Addr) (cap:Nat) (hK:KindsAt w ad cap):Calls Tryz.prog 13 #[.string s] w (BothRes w (bothF s)):=by
 by_cases hs:1500<s.size
 ·have hf:bothF s=none:=by unfold bothF;rw [if_pos hs]
  have a1:(1500:Int)<(s.size:Int):=by omega
  rw [hf]
  clear hs hf hw hF hK
  go_enter Tryz.func13,Tryz.ntmps13
  go_wp2
  refine bodyPost_ret (v:=.tuple #[.pointer none,.slice none 0 0,.bool false]) (by simp [results,Tryz.f13,go_sem]) rfl ?_
  exact ⟨rfl,Below.refl _ _⟩
 ·have a1:¬ (1500:Int)<(s.size:Int):=by omega
  have HQ0:=rcatp_any s w hw.lb hF ad cap hK
  have HP0:∀ W,Below w.heap.size w W->Calls Tryz.prog 69 #[.string s] W (ParRes W (parseF s)):=fun W hb=>parse_any_c s W (hw.below hb)
  cases hx:parseF s with
  | error e =>
   obtain ⟨q,o⟩:=e
   have hf:bothF s=none:=by unfold bothF;rw [if_neg hs,hx]
   have hq:=parseF_errB hx
   have hq1:(q == 0)=false:=by rw [beq_eq_false_iff_ne];exact hq
   rw [hx] at HQ0
   rw [hf]
   have HQ:=Lib.hid HQ0
   clear HQ0 HP0 hw hF hK hx hf hs hq
   generalize hPO:placeO o=PO at *
   have HPO:=Lib.hid hPO
   clear hPO
   go_enter Tryz.func13,Tryz.ntmps13
   go_wp2_with fail
   refine HQ.out.mono ?_
   rintro e w1 ⟨v,k,p,rfl,hb1,hv,hk,hp⟩
   rw [hv,hk,hp,HPO.out]
   clear hv hk hp
   have hA:Below w1.heap.size w1 (w1.alloc (.cells #[.int .i64 q,.int .i64 PO] 96)):=(Below.refl _ _).alloc (Nat.le_refl _) _
   have kf:=Blk.new w1 96 #[.int .i64 q,.int .i64 PO]
   have HB1:Hid (Below w.heap.size w (w1.alloc (.cells #[.int .i64 q,.int .i64 PO] 96))):=hb1.trans (hA.mono hb1.size)
   clear hA hb1 HQ
   go_upto_region 4 with fail
   generalize w1.alloc (.cells #[.int .i64 q,.int .i64 PO] 96)=W1 at *
   generalize w1.heap.size=bf at *
   have c0:W1.cell? ⟨bf,0,none⟩=some (.int .i64 q):=kf.cell 0
   clear kf
   go_wp2
   refine bodyPost_ret (v:=.tuple #[.pointer none,.slice none 0 0,.bool false]) (by simp [results,Tryz.f13,go_sem]) rfl ?_
   exact ⟨rfl,HB1.out⟩
  | ok r =>
   obtain ⟨ls,its⟩:=r
   have hf:bothF s=some (ls,its):=by unfold bothF;rw [if_neg hs,hx]
   rw [hx] at HQ0 HP0
   rw [hf]
   have HQ:=Lib.hid HQ0
   have HP:=Lib.hid HP0
   clear HQ0 HP0 hw hF hK hx hf hs
   go_enter Tryz.func13,Tryz.ntmps13
   go_wp2_with fail
   refine HQ.out.mono ?_
   rintro e w1 ⟨v,k,p,rfl,hb1,hv,hk,hp⟩
   rw [hk,hp]
   clear hk hp
   have hA:Below w1.heap.size w1 (w1.alloc (.cells #[.int .i64 0,.int .i64 (-1)] 96)):=(Below.refl _ _).alloc (Nat.le_refl _) _
   have kf:=Blk.new w1 96 #[.int .i64 0,.int .i64 (-1)]
   have HB1:Hid (Below w.heap.size w (w1.alloc (.cells #[.int .i64 0,.int .i64 (-1)] 96))):=hb1.trans (hA.mono hb1.size)
   have HV1:=Lib.hid (hv.below hA (Nat.le_refl _))
   obtain ⟨va,vc,rfl⟩:∃ va vc,v=.slice va ls.length vc:=by obtain ⟨vs,_,h2⟩:=hv;obtain ⟨a,c,e,_⟩:=h2.form;exact ⟨a,c,e⟩
   clear hA hb1 HQ hv
   go_upto_region 4 with fail
   generalize w1.alloc (.cells #[.int .i64 0,.int .i64 (-1)] 96)=W1 at *
   generalize w1.heap.size=bf at *
   have c0:W1.cell? ⟨bf,0,none⟩=some (.int .i64 0):=kf.cell 0
   clear kf
   go_wp2_with fail
   refine (HP.out _ HB1.out).mono ?_
   rintro e w2 ⟨bc,vs,rfl,hcv,-,hb2⟩
   have HB2:Hid (Below w.heap.size w w2):=HB1.out.trans (hb2.mono HB1.out.size)
   have HV2:=Lib.hid (HV1.out.below hb2 (Nat.le_refl _))
   have HC2:=Lib.hid hcv.cat
   clear hcv hb2 HP HB1 HV1 c0
   go_wp2
   refine bodyPost_ret (v:=.tuple #[.pointer (some ⟨bc,0,none⟩),.slice va ls.length vc,.bool true]) (by simp [results,Tryz.f13,go_sem]) rfl ?_
   exact ⟨bc,_,rfl,HC2.out,HV2.out,HB2.out⟩
end Go.Proofs.YtiihalknffbjpaaGreatDoor
namespace Go.Proofs.YtiihalknffbjpaaGreatDoor.Bd
open Go.RowKit Go.Deep Sv
theorem ent_sb2:∀ args w,(callFunc 29 args).run Tryz.prog w=.ok (.enter 29 args) w:=by intro args w;kernel_rfl
theorem ent_sb3:∀ args w,(callFunc 30 args).run Tryz.prog w=.ok (.enter 30 args) w:=by intro args w;kernel_rfl
theorem ent_sb4:∀ args w,(callFunc 32 args).run Tryz.prog w=.ok (.enter 32 args) w:=by intro args w;kernel_rfl
theorem sb2_c (i:Int) (bb:Bool) (w:World):Calls Tryz.prog 29 #[.int .i64 i,.bool bb] w fun e w'=>e=.returned (.int .i64 (oneI bb))/\Below w.heap.size w w':=by
 unfold oneI
 cases bb
 ·go_enter Tryz.func29,Tryz.ntmps29
  go_wp2
  go_ret
  exact ⟨rfl,Below.refl _ _⟩
 ·go_enter Tryz.func29,Tryz.ntmps29
  go_wp2
  go_ret
  exact ⟨rfl,Below.refl _ _⟩
theorem sb3_c (now i:Nat) (bb:Bool) (a:Nat) (w:World) (hi:i<64) (hnow:now<2 ^ 64) (ha:w.cell? ⟨a,0,none⟩=some (.int .u64 (now:Int))):Calls Tryz.prog 30 #[.int .i64 (i:Int),.bool bb,.pointer (some ⟨a,0,none⟩)] w fun e w'=>e=.returned (.int .i64 (nearC now i bb))/\Below w.heap.size w w':=by
 have hs:=shr_bit1 now i (by omega)
 have hi0:(0:Int)<=(i:Int):=by omega
 unfold nearC oneI
 cases bb <;> cases hb:now.testBit i <;> rw [hb] at hs <;>
 ·clear hb
  go_enter Tryz.func30,Tryz.ntmps30
  go_wp2
  go_ret
  exact ⟨rfl,Below.refl _ _⟩
theorem sb4_c (costs:List Int) (i:Nat) (bb:Bool) (a:Nat) (sa:Option Addr) (cap:Nat) (w:World) (hi:i<64) (ha:w.cell? ⟨a,0,none⟩=some (.slice sa costs.length cap)) (hI:IntsIn w sa costs):Calls Tryz.prog 32 #[.int .i64 (i:Int),.bool bb,.pointer (some ⟨a,0,none⟩)] w fun e w'=>e=.returned (.int .i64 (cheapC costs i bb))/\Below w.heap.size w w':=by
 unfold cheapC
 cases bb with
 | false =>
  rw [if_neg (by simp)]
  clear hI
  go_enter Tryz.func32,Tryz.ntmps32
  go_wp2
  go_ret
  exact ⟨rfl,Below.refl _ _⟩
 | true =>
  by_cases hlt:i<costs.length
  ·rw [if_pos ⟨rfl,hlt⟩]
   obtain ⟨ad,rfl,had,cA⟩:=hI i hlt
   generalize costs.getD i 0=x at *
   have h0:(0:Int)<=(i:Int):=by omega
   have h1:(i:Int)<(costs.length:Int):=by omega
   obtain ⟨ab,ao,asp⟩:=ad
   clear hI had
   go_enter Tryz.func32,Tryz.ntmps32
   go_wp2
   go_ret
   exact ⟨rfl,Below.refl _ _⟩
  ·rw [if_neg (fun h=>hlt h.2)]
   have h1:¬ (i:Int)<(costs.length:Int):=by omega
   clear hI
   go_enter Tryz.func32,Tryz.ntmps32
   go_wp2
   go_ret
   exact ⟨rfl,Below.refl _ _⟩
theorem sb1_c (C:Cost) (hC:CostOk C) (vars:Nat) (hv:vars<=8) (L:List Nat) (hlen:L.length<=1000) (hL:∀ x ∈ L,x<18446744073709551616) (la:Option Addr) (lc:Nat) (F:FuncId) (cb:Array Value) (hent:∀ args w,(callFunc F args).run Tryz.prog w=.ok (.enter F args) w) (w:World) (hg:Glob w) (hU:UIn w la L) (hCA:CostAt w F cb C vars) (ba bn:Nat) (ka:w.cell? ⟨ba,0,none⟩=some (.slice la L.length lc)) (kn:w.cell? ⟨bn,0,none⟩=some (.int .i64 (vars:Int)))
  (x:Wy) (h1:(chF C vars L).2.1=x.can) (h2:x.can=true->(chF C vars L).2.2=x.items) :
  Calls Tryz.prog 24 #[.int .u64 (((if x.can then x.items else 0):Nat):Int),(if x.can then .nilIface else .iface 57 (.int .i64 8)),.func (.func F) #[] cb,.pointer (some ⟨ba,0,none⟩),.pointer (some ⟨bn,0,none⟩)] w fun e w'=>e=.returned (.bool true)/\Below w.heap.size w w':=by
 have HCH0:=rcheapest_any C hC vars hv L hlen hL la lc F cb hent w hU hCA
 rw [h1] at HCH0
 have HBR:Hid (∀ W,Below w.heap.size w W->Calls Tryz.prog 26 #[.iface 57 (.int .i64 8),.int .i64 8] W fun e w'=>e=.returned (.bool true)/\Below W.heap.size W w'):=fun W hW=>bare_any 8 8 (.iface 57 (.int .i64 8)) W (hg.below hW) (Or.inr (Or.inl ⟨by decide,rfl,rfl⟩))
 cases hc:x.can with
 | false =>
  rw [hc] at HCH0
  simp only [Bool.false_eq_true,if_false]
  have HCH:=Lib.hid HCH0
  generalize (chF C vars L).2.2=y at *
  clear HCH0 h1 h2 hU hCA hC hL hent hg
  go_enter Tryz.func24,Tryz.ntmps24
  go_wp2_with fail
  refine HCH.out.mono ?_
  rintro e w1 ⟨rfl,hb1⟩
  have HB1:=Lib.hid (HBR.out w1 hb1)
  have HB:=Lib.hid hb1
  clear HCH hb1 HBR ka kn
  go_wp2_with fail
  refine HB1.out.mono ?_
  rintro e w2 ⟨rfl,hb2⟩
  have HF:=Lib.hid (HB.out.trans (hb2.mono HB.out.size))
  clear hb2
  go_wp2
  go_ret
  exact ⟨rfl,HF.out⟩
 | true =>
  rw [hc,h2 hc] at HCH0
  simp only [if_true]
  have HCH:=Lib.hid HCH0
  generalize x.items=y at *
  clear HCH0 h1 h2 hU hCA hC hL hent hg HBR
  go_enter Tryz.func24,Tryz.ntmps24
  go_wp2_with fail
  refine HCH.out.mono ?_
  rintro e w1 ⟨rfl,hb1⟩
  have HB:=Lib.hid hb1
  clear HCH hb1 ka kn
  go_wp2
  go_ret
  exact ⟨rfl,HB.out⟩
theorem small_c (ls:List Ln) (its:List It) (v:Value) (m:Nat) (w:World) (h:RLs w v ls) (hN:newF ls=.ok its) :
  Calls Tryz.prog 14 #[v,.int .i64 (m:Int)] w fun e w'=>∃ ca cc,e=.returned (.tuple #[.slice ca (ofL its ls).length cc,.int .i64 (its.length:Int),.bool (decide ((ofL its ls).length<=200) && decide (its.length<=m))])/\ClsIn w' ca ((ofL its ls).map Prod.snd)/\Below w.heap.size w w':=by
 obtain ⟨hi24,hl100,hck⟩:=newF_ok hN
 obtain ⟨hasc,hri⟩:=new_asc hN
 obtain ⟨va,vc,rfl⟩:∃ va vc,v=.slice va ls.length vc:=by obtain ⟨vs,_,h2⟩:=h;obtain ⟨a,c,e,_⟩:=h2.form;exact ⟨a,c,e⟩
 have HRU:=Lib.hid (rrules_any ls its _ w h hl100 hi24 hri hasc)
 have HIT:Hid (∀ W,Below w.heap.size w W->Calls Tryz.prog 46 #[.slice va ls.length vc] W fun e w'=>∃ a c,e=.returned (.slice a its.length c)/\Below W.heap.size W w'):=fun W hW=>(ritems_any ls _ W (h.below hW (Nat.le_refl _)) (by omega)).mono fun e w' ⟨v',h1,h2,h3⟩=>by
  rw [hri] at h2
  obtain ⟨a,c,e1,-⟩:=(rowAt_own h2).form
  exact ⟨a,c,by rw [h1,e1],h3⟩
 clear h hN hck hasc hri
 generalize ofL its ls=P at *
 generalize its.length=n at *
 go_enter Tryz.func14,Tryz.ntmps14
 go_wp2_with fail
 refine HRU.out.mono ?_
 rintro e w2 ⟨cv,fv,rfl,hrs2,hb2⟩
 obtain ⟨ca,cc,rfl⟩:∃ a c,cv=.slice a P.length c:=by obtain ⟨cs,h1,_⟩:=hrs2.crow;obtain ⟨a,c,e,_⟩:=(rowAt_own h1).form;exact ⟨a,c,by simpa using e⟩
 have hcl:ClsIn w2 ca (P.map Prod.snd):=by
  obtain ⟨cs,h1,h2,_⟩:=hrs2.crow
  exact ClsK.cls (B:=0) (cap:=cc) h2 (by simpa using ownsRow_base h1 (Nat.zero_le _))
 have HCL:=Lib.hid hcl
 have HB2:=Lib.hid hb2
 have HI2:=Lib.hid (HIT.out w2 hb2)
 clear hrs2 hb2 hcl HRU HIT
 go_wp2_with fail
 refine HI2.out.mono ?_
 rintro e w3 ⟨ia,ic,rfl,hb3⟩
 have HF:Hid (ClsIn w3 ca (P.map Prod.snd)/\Below w.heap.size w w3):=⟨HCL.out.below hb3,HB2.out.trans (hb3.mono HB2.out.size)⟩
 clear hb3 HI2 HCL HB2
 by_cases hp:P.length<=200
 ·rw [decide_eq_true hp]
  by_cases hm:n<=m
  ·have hmi:(n:Int)<=(m:Int):=by omega
   go_wp2
   refine bodyPost_ret (v:=.tuple #[.slice ca P.length cc,.int .i64 (n:Int),.bool true]) (by simp [results,Tryz.f14,go_sem]) rfl ?_
   exact ⟨ca,cc,by simp [hp,hm],HF.out.1,HF.out.2⟩
  ·have hmi:¬ (n:Int)<=(m:Int):=by omega
   go_wp2
   refine bodyPost_ret (v:=.tuple #[.slice ca P.length cc,.int .i64 (n:Int),.bool false]) (by simp [results,Tryz.f14,go_sem]) rfl ?_
   exact ⟨ca,cc,by simp [hp,hm],HF.out.1,HF.out.2⟩
 ·rw [decide_eq_false hp]
  go_wp2
  refine bodyPost_ret (v:=.tuple #[.slice ca P.length cc,.int .i64 (n:Int),.bool false]) (by simp [results,Tryz.f14,go_sem]) rfl ?_
  exact ⟨ca,cc,by simp [hp],HF.out.1,HF.out.2⟩
end Go.Proofs.YtiihalknffbjpaaGreatDoor.Bd

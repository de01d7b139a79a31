/- What is wrong with a line's text is an error. Plain. -/
import Derived.Test.YtiihalknffbjpaaGreatDoorRlLineD
import Derived.Test.YtiihalknffbjpaaGreatDoorRlPlain
namespace Go.Proofs.YtiihalknffbjpaaGreatDoor
section
open Go.RowKit Go.Shelf Sv
theorem zlO(s:ByteArray)(w:World)(hs:s.size<=100000)(hw:Lb w)(hF:FineR w)(ad:Addr)(cap:Nat)(hK:zbp w ad cap):zC 56 #[.string s] w (zjs w (zfc s)):=by
 have h4:=ziy (zan s 32).1;have h:zaS (zan s 32).1=0\/zaS (zan s 32).1=1\/zaS (zan s 32).1=2\/zaS (zan s 32).1=3\/zaS (zan s 32).1=4:=by omega
 unfold zfc;rcases h with h|h|h|h|h
 ·rw[h];exact zjw s w hs hw hF ad cap hK h
 ·rw[h,if_neg (by decide),if_neg (by decide)];cases hv:versF (zan (zan (zan s 32).2 32).2 32).1 with
  |error ke=>exact rline_ver s w hs hw hF ad cap hK 1 (Or.inl rfl) h ke hv
  |ok ns =>
   obtain⟨a,b,c,rfl⟩:=len3 (versF_len hv).1;simp only[if_pos]
   by_cases hr:(zan (zan (zan s 32).2 32).2 32).2.size=0
   ·rw[if_pos hr];exact zmA s w hs hw hF ad cap hK h a b c hv hr
   ·rw[if_neg hr];exact zfM s w hs hw hF ad cap hK h a b c hv hr
 ·rw[h,if_neg (by decide),if_neg (by decide)];cases hv:versF (zan (zan (zan s 32).2 32).2 32).1 with
  |error ke=>exact rline_ver s w hs hw hF ad cap hK 2 (Or.inr (Or.inl rfl)) h ke hv
  |ok ns =>
   obtain⟨a,b,c,rfl⟩:=len3 (versF_len hv).1;simp only;rw[if_neg (by decide)];unfold zeh;cases hr:zjd (zan (zan (zan (zan s 32).2 32).2 32).2 32).2 with
   |error q=>obtain⟨q,o⟩:=q;exact rline_pair_bad s w hs hw hF ad cap hK 2 (Or.inl rfl) h a b c hv q o hr
   |ok lo=>exact rline_pair s w hs hw hF ad cap hK 2 (Or.inl rfl) h a b c hv lo hr
 ·rw[h,if_neg (by decide),if_neg (by decide)];cases hv:versF (zan (zan (zan s 32).2 32).2 32).1 with
  |error ke=>exact rline_ver s w hs hw hF ad cap hK 3 (Or.inr (Or.inr rfl)) h ke hv
  |ok ns =>
   obtain⟨a,b,c,rfl⟩:=len3 (versF_len hv).1;simp only;rw[if_neg (by decide)];unfold zeh;cases hr:zjd (zan (zan (zan (zan s 32).2 32).2 32).2 32).2 with
   |error q=>obtain⟨q,o⟩:=q;exact rline_pair_bad s w hs hw hF ad cap hK 3 (Or.inr rfl) h a b c hv q o hr
   |ok lo=>exact rline_pair s w hs hw hF ad cap hK 3 (Or.inr rfl) h a b c hv lo hr
 ·rw[h,if_neg (by decide),if_pos rfl];unfold zeh;cases hr:zjd (zan (zan s 32).2 32).2 with
  |error q=>obtain⟨q,o⟩:=q;exact zfh s w hs hw hF ad cap hK h q o hr
  |ok lo=>exact zj9 s w hs hw hF ad cap hK h lo hr
end
section
open Go.RowKit Go.Deep Go.Shelf Sv
theorem zqt:(Tryz.prog.info? 101).map (fun i=>(i.zero,i.size,i.bytes))=some (some (.agg #[.int .i64 0,.string ⟨#[]⟩,.int .i64 0,.int .i64 0,.int .i64 0,.string ⟨#[]⟩,.slice none 0 0]),7,88):=by kernel_rfl
theorem zhg(l:List Span):(tp l).length=2*l.length:=by
 induction l with
 |nil=>rfl
 |cons s r ih=>simp only[tp,List.length_cons,ih];omega
def zjb(W:World)(ls:List Ln)(vs:List Value):Prop:=vs.length=ls.length/\∀i,i<ls.length->NsAt W (vs.getD i undef) (tp (ls.getD i default).rng)/\Rg (ls.getD i default).rng
theorem zjb.below{B:Nat}{w w':World}{l:List Ln}{vs:List Value}(h:zjb w l vs)(hb:Below B w w')(hB:w.heap.size<=B):zjb w' l vs:=⟨h.1,fun i hi=>⟨(h.2 i hi).1.below hb hB,(h.2 i hi).2⟩⟩
theorem zmZ(w:World):zjb w [] []:=⟨rfl,fun i h=>by simp at h⟩
theorem NsAt.lt'{w:World}{v:Value}{l:List Span}(h:NsAt w v (tp l))(hl:0<l.length){g:Nat}(hg:v.ownBlock=some g):g<w.heap.size:=by
 obtain⟨g',cap,e,hlt,_⟩:=h.cells 0 (by rw[zhg];omega);rw[e] at hg;simp[Value.ownBlock] at hg;omega
theorem RgN.newR{W:World}{ls:List Ln}{vs:List Value}(h:zjb W ls vs){b:Nat}(hb:W.heap.size<=b):RgN ls vs (some b):=fun i hi hl g hg e=>by
 have:=(h.2 i hi).1.lt' hl hg;cases e;omega
theorem NsAt.grown{W W':World}{v:Value}{l:List Span}{row:Option Nat}(h:NsAt W v (tp l))(hg:W.grownBy W' row)(hn:0<l.length->∀g,v.ownBlock=some g->some g≠row):NsAt W' v (tp l) :=
 ⟨h.form,fun i hi=>by
  obtain⟨g,cap,e,hlt,c0⟩:=h.cells i hi;have hne:=hn (by rw[zhg] at hi;omega) g (by rw[e];rfl);exact ⟨g,cap,e,Nat.lt_of_lt_of_le hlt hg.size,(za4 hg hlt hne).trans c0⟩⟩
theorem zjb.grown{W W':World}{ls:List Ln}{vs:List Value}{row:Option Nat}(h:zjb W ls vs)(hg:W.grownBy W' row)(hn:RgN ls vs row):zjb W' ls vs:=⟨h.1,fun i hi=>⟨(h.2 i hi).1.grown hg (hn i hi),(h.2 i hi).2⟩⟩
theorem zjb.snoc{w:World}{l:List Ln}{vs:List Value}(h:zjb w l vs){x:Ln}{v:Value}(hv:NsAt w v (tp x.rng))(hr:Rg x.rng):zjb w (l++[x]) (vs++[v]):=by
 refine⟨by simp[h.1],fun i hi=>?_⟩
 by_cases hl:i<l.length
 ·have e1:(l++[x]).getD i default=l.getD i default:=by simp[List.getD_eq_getElem?_getD,List.getElem?_append_left hl]
  have e2:(vs++[v]).getD i undef=vs.getD i undef:=by simp[List.getD_eq_getElem?_getD,List.getElem?_append_left (show i<vs.length by rw[h.1];exact hl)]
  rw[e1,e2];exact h.2 i hl
 ·obtain rfl:i=l.length:=by simp at hi;omega
  have e1:(l++[x]).getD l.length default=x:=by simp[List.getD_eq_getElem?_getD]
  have e2:(vs++[v]).getD l.length undef=v:=by simp[List.getD_eq_getElem?_getD,<-h.1]
  rw[e1,e2];exact⟨hv,hr⟩
structure RPS(W0 W:World)(lv sv:Value)(ls:List Ln)(vs:List Value)(ss:List Nat):Prop where
 lrow:W.ownsRow W0.heap.size 101 7 lv ls.length (zav ls vs)
 srow:W.ownsRow W0.heap.size 3 1 sv ss.length (zaf (ss.map fun (k:Nat)=>(k:Int)))
 rg:zjb W ls vs
 nl:RgN ls vs lv.ownBlock
 ns:RgN ls vs sv.ownBlock
 lo:∀k,k<W0.heap.size->RgN ls vs (some k)
 B:zB W0 W
theorem RPS.start(W0:World):RPS W0 W0 (.slice none 0 0) (.slice none 0 0) [] [] []:=⟨World.ownsRow_nil _ _ _ _,World.ownsRow_nil _ _ _ _,zmZ _,RgN.nil _,RgN.nil _,fun _ _=>RgN.nil _,Below.refl _ _⟩
theorem RPS.step{W0 W W':World}{lv sv:Value}{ls:List Ln}{vs:List Value}{ss:List Nat}(h:RPS W0 W lv sv ls vs ss)(hb:zB W W'):RPS W0 W' lv sv ls vs ss :=
 ⟨zad h.lrow hb,zad h.srow hb,h.rg.below hb zN,h.nl,h.ns,h.lo,zT h.B hb⟩
theorem RPS.appL{W0 W w':World}{lv lv' sv v:Value}{ls:List Ln}{vs:List Value}{ss:List Nat}{x:Ln}(h:RPS W0 W lv sv ls vs ss)(hv:NsAt W v (tp x.rng))(hrg:Rg x.rng)(hn:0<x.rng.length->∀g,v.ownBlock=some g->W0.heap.size<=g/\some g≠lv.ownBlock/\some g≠sv.ownBlock)
  (hown:w'.ownsRow W0.heap.size 101 7 lv' (ls.length+1) (zav ls vs++zem x v)) (hg:W.grownBy w' lv.ownBlock) (hloc:lv'.ownBlock=lv.ownBlock\/lv'.ownBlock=some W.heap.size):RPS W0 w' lv' sv (ls++[x]) (vs++[v]) ss:=by
 have hx:0<x.rng.length->∀g,v.ownBlock=some g->some g≠lv.ownBlock:=fun h1 g h2=>(hn h1 g h2).2.1;have rg1:zjb w' (ls++[x]) (vs++[v]):=(h.rg.grown hg h.nl).snoc (hv.grown hg hx) hrg;refine⟨?_,zaH h.srow hg (zas h.srow h.lrow (by decide)),rg1,?_,h.ns.snoc h.rg.1 (fun h1 g h2=>(hn h1 g h2).2.2),fun k hk=>(h.lo k hk).snoc h.rg.1 (fun h1 g h2 e=>by have:=(hn h1 g h2).1;cases e;omega),h.B.grown hg h.B.size (fun k hk=>(h.lrow.lt k hk).1)⟩
 ·rw[zcL _ _ _ _ h.rg.1,List.length_append];exact hown
 ·rcases hloc with e|e
  ·rw[e];exact h.nl.snoc h.rg.1 hx
  ·rw[e];refine(RgN.newR h.rg zN).snoc h.rg.1 (fun h1 g h2 e2=>?_);have:=hv.lt' h1 h2;cases e2;omega
theorem RPS.appS{W0 W w':World}{lv sv sv':Value}{ls:List Ln}{vs:List Value}{ss:List Nat}{k:Nat}(h:RPS W0 W lv sv ls vs ss)
  (hown:w'.ownsRow W0.heap.size 3 1 sv' (ss.length+1) (zaf (ss.map fun (k:Nat)=>(k:Int))++[.int .i64 k])) (hg:W.grownBy w' sv.ownBlock) (hloc:sv'.ownBlock=sv.ownBlock\/sv'.ownBlock=some W.heap.size):RPS W0 w' lv sv' ls vs (ss++[k]):=by
 refine⟨zaH h.lrow hg (zas h.lrow h.srow (by decide)),?_,h.rg.grown hg h.ns,h.nl,?_,h.lo,h.B.grown hg h.B.size (fun k hk=>(h.srow.lt k hk).1)⟩
 ·rw[List.map_append,List.length_append];have e:zaf (List.map (fun (k:Nat)=>(k:Int)) ss++List.map (fun (k:Nat)=>(k:Int)) [k])=zaf (ss.map fun (k:Nat)=>(k:Int))++[.int .i64 k]:=by rw[List.map_cons,List.map_nil,zao]
  rw[e];exact hown
 ·rcases hloc with e|e
  ·rw[e];exact h.ns
  ·rw[e];exact RgN.newR h.rg zN
theorem NsAt.one'{W:World}{b:Nat}{v x:Value}{l:List Span}{i:Nat}(h:NsAt W v (tp l))(hn:0<l.length->∀g,v.ownBlock=some g->some g≠some b):NsAt (W.setCell ⟨b,i,none⟩ x) v (tp l) :=
 ⟨h.form,fun j hj=>by
  obtain⟨g,cap,e,hg,c0⟩:=h.cells j hj;have hne:g≠b:=fun e'=>hn (by rw[zhg] at hj;omega) g (by rw[e];rfl) (by rw[e']);exact ⟨g,cap,e,by simp [World.setCell];exact hg,(zab hne).trans c0⟩⟩
theorem RPS.rlsSet{W0 W:World}{lv sv x y:Value}{ls:List Ln}{vs:List Value}{ss:List Nat}{b i j:Nat}(h:RPS W0 W lv sv ls vs ss)(hb:b<W0.heap.size):RLs ((W.setCell ⟨b,i,none⟩ x).setCell ⟨b,j,none⟩ y) lv ls :=
 ⟨vs,⟨h.rg.1,fun k hk=>⟨((h.rg.2 k hk).1.one' (h.lo b hb k hk)).one' (h.lo b hb k hk),(h.rg.2 k hk).2⟩⟩,zaa (zar (zar h.lrow hb) hb)⟩
theorem RPS.rls{W0 W:World}{lv sv:Value}{ls:List Ln}{vs:List Value}{ss:List Nat}(h:RPS W0 W lv sv ls vs ss):RLs W lv ls:=⟨vs,h.rg,zaa h.lrow⟩
theorem zia{L:List (Nat × ByteArray)}{k:Nat}(hk:k<L.length):(L.take (k+1)).filter (fun x=>decide (x.2.size≠0))=(L.take k).filter (fun x=>decide (x.2.size≠0))++(if (px L k).2.size=0 then [] else [px L k]):=by
 rw[List.take_succ_eq_append_getElem hk,List.filter_append,px_at L k hk];congr 1;rw[List.filter_cons,List.filter_nil]
 by_cases h:(L[k]).2.size=0
 ·rw[if_neg (by simp[h]),if_pos h]
 ·rw[if_pos (decide_eq_true h),if_neg h]
theorem zqL{L:List (Nat × ByteArray)}{k:Nat}(hk:k<L.length){acc:List (Nat × Ln)}(h:plF ((L.take k).filter (fun x=>decide (x.2.size≠0))) []=.ok acc) :
  plF ((L.take (k+1)).filter (fun x=>decide (x.2.size≠0))) []=if (px L k).2.size=0 then .ok acc else match zfc (px L k).2 with
   |.error e=>.error (e.1,(px L k).1)
   |.ok l=>.ok (acc++[((px L k).1,l)]):=by
 rw[zia hk,zfW,h];simp only
 by_cases h0:(px L k).2.size=0
 ·rw[if_pos h0,if_pos h0];rfl
 ·rw[if_neg h0,if_neg h0,plF];cases zfc (px L k).2 with
  |error e=>rfl
  |ok l=>rfl
theorem zrv{L:List (Nat × ByteArray)}{k:Nat}{e:Int × Nat}(h:plF ((L.take k).filter (fun x=>decide (x.2.size≠0))) []=.error e):plF (L.filter (fun x=>decide (x.2.size≠0))) []=.error e:=by
 conv=>lhs;rw[<-List.take_append_drop k L,List.filter_append,zfW,h]
end
section
open Go.RowKit Go.Shelf Sv
theorem zhs{k:Nat}{nm:ByteArray}{ns:List Nat}{ot rest:ByteArray}{q:Int}{o:Option Nat}(h:zeh k nm ns ot rest=.error (q,o)):q≠0:=by
 unfold zeh at h;split at h
 ·rename_i e hx;cases h;exact ziI hx
 ·cases h
theorem zgA{s:ByteArray}{q:Int}{o:Option Nat}(h:zfc s=.error (q,o)):q≠0:=by
 unfold zfc at h;split at h
 ·cases h;decide
 ·split at h
  ·exact zhs h
  ·split at h
   ·rename_i hx;cases h;exact versF_err hx
   ·split at h
    ·split at h
     ·cases h
     ·cases h;decide
    ·exact zhs h
end
end Go.Proofs.YtiihalknffbjpaaGreatDoor

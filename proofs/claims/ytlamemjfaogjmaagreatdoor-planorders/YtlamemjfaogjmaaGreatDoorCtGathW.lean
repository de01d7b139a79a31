/- gather. -/
import Derived.Test.YtlamemjfaogjmaaGreatDoorCtChkB
import Derived.Deep.CutBlock
set_option maxHeartbeats 4000000
set_option maxRecDepth 100000
namespace Go.Proofs.YtlamemjfaogjmaaGreatDoor
section
open Go.RowKit Sv
theorem zb0(x:Ln)(v:Value)(w:World)(hv:zb w v x.rng) :
  zR 95 #[.agg #[.int .i64 x.kind,.string x.name,.int .i64 x.a,.int .i64 x.b,.int .i64 x.c,.string x.other,v]] w (.int .i64 (zM x)):=by
 obtain⟨ra,rc,rfl⟩:=hv.form;clear hv;obtain⟨k,n,a,b,c,o,r⟩:=x;unfold zM Ln.pair;simp only
 by_cases hk:k<1\/4<k
 ·rw[if_pos hk];rcases hk with hk|hk
  ·exact zek k n o a b c ra r.length rc w hk
  ·exact zbo k n o a b c ra r.length rc w hk
 rw[if_neg hk];have hk4:k=1\/k=2\/k=3\/k=4:=by omega
 by_cases hn:zh n
 ·rcases hk4 with rfl|rfl|rfl|rfl
  ·have h1:¬(¬zh n\/(((1:Int)=2\/(1:Int)=3)/\¬zh o)):=by
    rintro (h|⟨h,_⟩)
    ·exact h hn
    ·omega
   rw[if_neg h1]
   by_cases ho:o.size≠0
   ·rw[if_pos ⟨by omega,ho⟩];exact zfl n o a b c ra r.length rc w hn (by omega)
   ·rw[if_neg (fun h=>ho h.2)];obtain rfl:=xv (s:=o) (by omega);cases r with
    |nil =>
     rw[if_neg (fun h=>h.2 rfl),if_neg (by omega)];refine(zd6 n a b c ra rc w hn).mono fun e w' ⟨h1,h2⟩=>⟨?_,h2⟩;rw[h1]
     by_cases hi:InV a b c
     ·rw[if_pos hi,if_neg (fun h=>h hi)]
     ·rw[if_neg hi,if_pos hi]
    |cons s r =>rw[if_pos ⟨rfl,by simp⟩];exact zeN n a b c ra (s :: r).length rc w hn (by simp)
  ·by_cases ho:zh o
   ·have h1:¬(¬zh n\/(((2:Int)=2\/(2:Int)=3)/\¬zh o)):=by
     rintro (h|⟨_,h⟩)
     ·exact h hn
     ·exact h ho
    rw[if_neg h1,if_neg (fun h=>h.1 (Or.inl rfl)),if_neg (by omega),if_neg (by omega)];refine(zcy n o a b c ra r.length rc w hn ho).mono fun e w' ⟨h1,h2⟩=>⟨?_,h2⟩;rw[h1]
    by_cases hi:InV a b c
    ·rw[if_pos hi,if_neg (fun h=>h hi)]
    ·rw[if_neg hi,if_pos hi]
   ·rw[if_pos (Or.inr ⟨Or.inl rfl,ho⟩)];exact za9 n o a b c ra r.length rc w hn ho
  ·by_cases ho:zh o
   ·have h1:¬(¬zh n\/(((3:Int)=2\/(3:Int)=3)/\¬zh o)):=by
     rintro (h|⟨_,h⟩)
     ·exact h hn
     ·exact h ho
    rw[if_neg h1,if_neg (fun h=>h.1 (Or.inr rfl)),if_neg (by omega),if_neg (by omega)];refine(zfq n o a b c ra r.length rc w hn ho).mono fun e w' ⟨h1,h2⟩=>⟨?_,h2⟩;rw[h1]
    by_cases hi:InV a b c
    ·rw[if_pos hi,if_neg (fun h=>h hi)]
    ·rw[if_neg hi,if_pos hi]
   ·rw[if_pos (Or.inr ⟨Or.inr rfl,ho⟩)];exact zfP n o a b c ra r.length rc w hn ho
  ·have h1:¬(¬zh n\/(((4:Int)=2\/(4:Int)=3)/\¬zh o)):=by
    rintro (h|⟨h,_⟩)
    ·exact h hn
    ·omega
   rw[if_neg h1]
   by_cases ho:o.size≠0
   ·rw[if_pos ⟨by omega,ho⟩];exact zhA n o a b c ra r.length rc w hn (by omega)
   ·rw[if_neg (fun h=>ho h.2),if_neg (by omega)];obtain rfl:=xv (s:=o) (by omega)
    by_cases hz:a≠0\/b≠0\/c≠0
    ·rw[if_pos ⟨rfl,hz⟩];refine zcm n a b c ra r.length rc w hn ?_
     by_cases h0:a=0
     ·by_cases h1:b=0
      ·have h2:c≠0:=by omega
       simp[h2]
      ·simp[h1]
     ·simp[h0]
    ·rw[if_neg (fun h=>hz h.2)];obtain rfl:a=0:=by omega
     obtain rfl:b=0:=by omega
     obtain rfl:c=0:=by omega
     rw[if_neg (fun h=>h (by decide))];exact za0 n ra r.length rc w hn
 ·rw[if_pos (Or.inl hn)];rcases hk4 with rfl|rfl|rfl|rfl
  ·exact zfB n o a b c ra r.length rc w hn
  ·exact zex n o a b c ra r.length rc w hn
  ·exact zcB n o a b c ra r.length rc w hn
  ·exact zfb n o a b c ra r.length rc w hn
end
section
open Go.RowKit Go.Shelf Go.Lib Sv
theorem zg5(l:List It)(x:It):Lib.idxBy (fun x y=>decide (x=y)) l x=zJ l x:=by
 have key:∀(l:List It) (i:Nat),Lib.idxByFrom (fun x y=>decide (x=y)) x l i=match l.findIdx? (fun y=>decide (x=y)) with|some k=>((i+k:Nat):Int)|none=>-1:=by
  intro l
  induction l with
  |nil=>intro i;rfl
  |cons y l ih =>
   intro i;rw[Lib.idxByFrom,List.findIdx?_cons]
   by_cases h:x=y
   ·simp[h]
   ·simp only[h,decide_false,Bool.false_eq_true,if_false];rw[ih];cases l.findIdx? (fun y=>decide (x=y)) with
    |none=>rfl
    |some k =>show (((i+1+k:Nat)):Int)=((i+(k+1):Nat):Int);rw[show i+1+k=i+(k+1) by omega]
 unfold Lib.idxBy zJ;rw[key];cases l.findIdx? (fun y=>decide (x=y)) with
 |none=>rfl
 |some k=>simp
theorem zhi(l:List It)(x:It):(l.any fun y=>decide (x=y))=decide (x∈l):=by
 rw[Bool.eq_iff_iff];simp only[List.any_eq_true,decide_eq_true_eq];constructor
 ·rintro⟨y,hy,rfl⟩;exact hy
 ·intro h;exact⟨x,h,rfl⟩
theorem JY{w:World}{v:Value}{l:List It}(h:zS w v l)(hl:0<l.length):∃g cap,v=.slice (some ⟨g,0,none⟩) l.length cap/\g<w.heap.size/\∀j,j<l.length->∀(i:Nat) u,(zr l[j]!)[i]?=some u->w.cell? ⟨g,0+j*4+i,none⟩=some u:=by
 obtain⟨g,cap,e,hg,hc⟩:=h.cells hl;refine⟨g,cap,e,hg,fun j hj i u hu=>?_⟩;rw[Nat.zero_add];refine hc _ _ (Zb l j hj i u ?_);rw[<-hu,List.getD_eq_getElem?_getD,List.getElem?_eq_getElem hj,getElem!_pos l j hj];rfl
theorem xd{w:World}{B:Nat}{W:World}(h:Below B w W)(n:Nat):Below B w (W.drewN n):=⟨h.os,h.tape,h.output,h.size,h.block⟩
theorem Kh(a:Option Addr)(c:Nat)(n:ByteArray)(x y z:Int)(w:World) :
  zR 72 #[.slice a 0 c,.agg #[.string n,.int .i64 x,.int .i64 y,.int .i64 z]] w (.int .i64 (-1)):=by
 have hB:Hid (zB w (w.alloc (.cells #[.string n,.int .i64 x,.int .i64 y,.int .i64 z] 145))):=(Below.refl _ w).alloc zN _;go_enter Tryz.func72,Tryz.ntmps72;go_wp2_with fail;go_loop [8] (fun i=>i=.int .i64 0) (fun _=>0)
 case atStart=>rfl
 case round =>subst hrel;go_wp2;go_ret;exact⟨rfl,hB.out⟩
theorem zbU(l:List It)(x:It)(v:Value)(w:World)(h:zS w v l)(hl:l.length<=100000) :
  zR 72 #[v,.agg #[.string x.name,.int .i64 x.a,.int .i64 x.b,.int .i64 x.c]] w (.int .i64 (zJ l x)):=by
 by_cases h0:0<l.length
 ·obtain⟨g,cap,rfl,hg,hc⟩:=JY h h0;refine(AnyQ.slices_Index Tryz.ixItem 4 Tryz.isAgg145 Tryz.sizeOf145 zr (fun _=>rfl) _ JR g 0 l.length cap l x w zN (by omega) hc).mono fun e w' ⟨he,q,hq⟩=>?_;rw[List.take_length,zg5] at he;refine⟨he,?_⟩;rw[hq];exact xd ((Below.refl _ w).alloc zN _) q
 ·obtain rfl:l=[]:=by cases l with|nil=>rfl|cons a l=>simp at h0
  obtain⟨a,cap,rfl,-⟩:=h.form;exact Kh a cap x.name x.a x.b x.c w
theorem zbG(a:Option Addr)(c:Nat)(x:It)(w:World) :
  zR 96 #[.slice a 0 c,.agg #[.string x.name,.int .i64 x.a,.int .i64 x.b,.int .i64 x.c]] w (.bool false):=by
 have H:Hid (∀W,zR 72 #[.slice a 0 c,.agg #[.string x.name,.int .i64 x.a,.int .i64 x.b,.int .i64 x.c]] W (.int .i64 (-1))):=fun W=>Kh a c x.name x.a x.b x.c W;have k0:=Blk.new w 145 #[.string x.name,.int .i64 x.a,.int .i64 x.b,.int .i64 x.c];have hB:zB w (w.alloc (.cells #[.string x.name,.int .i64 x.a,.int .i64 x.b,.int .i64 x.c] 145)):=(Below.refl _ w).alloc zN _;have HB:=zH hB;clear k0 hB;generalize x.name=n at *;generalize x.a=xa at *;generalize x.b=xb at *;generalize x.c=xc at *;go_enter Tryz.func96,Tryz.ntmps96;go_wp2_with fail;refine(H.out _).mono ?_;rintro e w1 ⟨rfl,hb1⟩;have HB1:Hid (zB w w1):=zT HB.out hb1;clear hb1 H HB;go_wp2;go_ret;exact⟨rfl,HB1.out⟩
theorem zhQ(l:List It)(x:It)(v:Value)(w:World)(h:zS w v l)(hl:l.length<=100000) :
  zR 96 #[v,.agg #[.string x.name,.int .i64 x.a,.int .i64 x.b,.int .i64 x.c]] w (.bool (decide (x∈l))):=by
 by_cases h0:0<l.length
 ·obtain⟨g,cap,rfl,hg,hc⟩:=JY h h0;refine(AnyQ.slices_Contains Tryz.hasItem 4 Tryz.isAgg145 Tryz.sizeOf145 zr (fun _=>rfl) _ JR g 0 l.length cap l x w zN (by omega) hc).mono fun e w' ⟨he,hb⟩=>?_;rw[List.take_length,zhi] at he;exact⟨he,hb⟩
 ·obtain rfl:l=[]:=by cases l with|nil=>rfl|cons a l=>simp at h0
  obtain⟨a,cap,rfl,-⟩:=h.form;exact(zbG a cap x w).mono fun e w' ⟨he,hb⟩=>⟨by rw[he];simp,hb⟩
theorem Ju:(Tryz.prog.info? 145).map (fun i=>(i.zero,i.size,i.bytes))=some (some (.agg #[.string ⟨#[]⟩,.int .i64 0,.int .i64 0,.int .i64 0]),4,40):=by kernel_rfl
theorem J5:(Tryz.prog.info? 92).map (fun i=>(i.zero,i.size,i.bytes))=some (some (.agg #[.int .i64 0,.string ⟨#[]⟩,.int .i64 0,.int .i64 0,.int .i64 0,.string ⟨#[]⟩,.slice none 0 0]),7,88):=by kernel_rfl
theorem zae(l:List It):∀u∈zf l,u.oneCell'=true:=by
 intro u hu;obtain⟨x,_,hx⟩:=List.mem_flatMap.1 hu;simp[zr] at hx;rcases hx with rfl|rfl|rfl|rfl<;>rfl
theorem zad:∀(l:List Ln) (vs:List Value),(∀v∈vs,v.oneCell'=true)->∀u∈zG l vs,u.oneCell'=true
 |[],_,_,u,hu=>by simp[zG] at hu
 |_ :: _,[],_,u,hu=>by simp[zG] at hu
 |x :: l,v :: vs,h,u,hu=>by
  rw[zG] at hu;rcases List.mem_append.1 hu with hu|hu
  ·simp[yQ] at hu;rcases hu with rfl|rfl|rfl|rfl|rfl|rfl|rfl
   all_goals first|rfl|exact h _ (by simp)
  ·exact zad l vs (fun v hv=>h v (by simp[hv])) u hu
theorem zY.one{w:World}{l:List Ln}{vs:List Value}(h:zY w l vs):∀v∈vs,v.oneCell'=true:=by
 intro v hv;obtain⟨i,hi,rfl⟩:=List.getElem_of_mem hv;have h2:=(h.2 i (by rw[<-h.1];exact hi)).1;obtain⟨a,cap,e⟩:=h2.form;rw[List.getD_eq_getElem?_getD,List.getElem?_eq_getElem hi] at e;rw[show vs[i]=_ from e];rfl
theorem ze1(l:List It)(v:Value)(w:World)(h:qt w v l.length (zf l))(hl:l.length<=100000) :
  zC 71 #[v] w fun e w'=>∃v',e=.returned v'/\w'.ownsRow w.heap.size 145 4 v' l.length (zf l)/\zB w w':=by
 obtain⟨i0,hi,hz0,hz1,hz2⟩:=info_parts Ju;obtain⟨a,cap,rfl,hn,-,-,had⟩:=h.form;rcases had with rfl|⟨g,rfl⟩
 ·obtain rfl:l=[]:=by
   cases l with
   |nil=>rfl
   |cons x l=>obtain⟨g,cap',e,_⟩:=h.cells (by simp);simp at e
  refine(AnyE.slices_Clone_nil Tryz.clnItem 0 cap w).mono fun e w' ⟨he,hw⟩=>⟨_,he,World.ownsRow_nil _ _ _ _,by rw[hw];exact Below.refl _ _⟩
 ·refine(AnyE.slices_Clone Tryz.clnItem i0 _ 4 40 hi hz0 hz1 hz2 rfl (by decide) Tryz.sizeOf145 g 0 l.length cap (zf l) w (yr l) (by unfold maxLen;omega) (by omega) (fun j u hu=>?_) (zae l)).mono fun e w' ⟨v',he,h1,_,h3⟩=>⟨v',he,h1,h3⟩;have h0:0<l.length:=by
   have:=(List.getElem?_eq_some_iff.1 hu).1;rw[yr l] at this;omega
  obtain⟨g',cap',e,hg,hc⟩:=h.cells h0;simp at e;obtain⟨rfl,rfl⟩:=e;rw[Nat.zero_add];exact hc j u hu
theorem Xl(l:List Ln)(vs:List Value)(hvs:vs.length=l.length)(hv1:∀v∈vs,v.oneCell'=true)(v:Value)(w:World)(h:qt w v l.length (zG l vs))(hl:l.length<=100000) :
  zC 64 #[v] w fun e w'=>∃v',e=.returned v'/\w'.ownsRow w.heap.size 92 7 v' l.length (zG l vs)/\zB w w':=by
 obtain⟨i0,hi,hz0,hz1,hz2⟩:=info_parts J5;obtain⟨a,cap,rfl,hn,-,-,had⟩:=h.form;rcases had with rfl|⟨g,rfl⟩
 ·obtain rfl:l=[]:=by
   cases l with
   |nil=>rfl
   |cons x l=>obtain⟨g,cap',e,_⟩:=h.cells (by simp);simp at e
  have hc0:zG [] vs=[]:=by cases vs<;>rfl
  rw[hc0];refine(AnyE.slices_Clone_nil Tryz.clnLine 0 cap w).mono fun e w' ⟨he,hw⟩=>⟨_,he,World.ownsRow_nil _ _ _ _,by rw[hw];exact Below.refl _ _⟩
 ·refine(AnyE.slices_Clone Tryz.clnLine i0 _ 7 88 hi hz0 hz1 hz2 rfl (by decide) Tryz.sizeOf92 g 0 l.length cap (zG l vs) w (QL l vs hvs) (by unfold maxLen;omega) (by omega) (fun j u hu=>?_) (zad l vs hv1)).mono fun e w' ⟨v',he,h1,_,h3⟩=>⟨v',he,h1,h3⟩;have h0:0<l.length:=by
   have:=(List.getElem?_eq_some_iff.1 hu).1;rw[QL l vs hvs] at this;omega
  obtain⟨g',cap',e,hg,hc⟩:=h.cells h0;simp at e;obtain⟨rfl,rfl⟩:=e;rw[Nat.zero_add];exact hc j u hu
end
section
open Go.RowKit Go.Deep Go.Maps Sv
structure GS(w W:World)(bm:Nat)(itV:Value)(its nms:List It):Prop where
 row:W.ownsRow w.heap.size 145 4 itV its.length (zf its)
 nm:qX W bm nms
 bmB:w.heap.size<=bm
 B:zB w W
theorem GS.step{w W W':World}{bm:Nat}{itV:Value}{its nms:List It}(h:GS w W bm itV its nms)(hb:zB W W'):GS w W' bm itV its nms :=
 ⟨qK h.row hb,h.nm.below hb zN,h.bmB,zT h.B hb⟩
theorem K1{W:World}{B t k n bm:Nat}{v:Value}{cs:List Value}{l:List It}(h:W.ownsRow B t k v n cs)(hn:qX W bm l):v.ownBlock≠some bm:=by
 obtain⟨D,⟨es,clock,h1,_⟩,_⟩:=hn;rcases h.2 with ⟨rfl,_⟩|⟨g,cap,cur,rfl,_,hg,_⟩
 ·simp[Value.ownBlock]
 ·intro e;simp only[Value.ownBlock,Option.some.injEq] at e;subst e;rw[h1] at hg;cases hg
theorem zd3{W W':World}{B t k n bm:Nat}{v:Value}{cs:List Value}(h:W.ownsRow B t k v n cs)(hg:W.grownBy W' (some bm))(hne:v.ownBlock≠some bm):W'.ownsRow B t k v n cs:=by
 obtain⟨h1,h2⟩:=h;refine⟨h1,?_⟩;rcases h2 with h2|⟨g,cap,cur,rfl,hB,hh,r⟩
 ·exact Or.inl h2
 ·exact Or.inr ⟨g,cap,cur,rfl,hB,(hg.block g (Array.getElem?_eq_some_iff.1 hh).1 (fun e=>hne e)).trans hh,r⟩
theorem GS.put{w W:World}{bm:Nat}{itV:Value}{its nms:List It}(h:GS w W bm itV its nms)(hl:nms.length<1000000){x:It}(hs:x.name.size<=100000) :
  ∃W',(Instr.mapUpdate 185 (.map (some bm)) (.string x.name) (.agg #[])).run Tryz.prog W=.ok () W'/\GS w W' bm itV its (nms++[x])/\(∀b t cs,Blk W b t cs->Blk W' b t cs):=by
 obtain⟨W',hrun,h1,h2⟩:=h.nm.put hl hs;refine⟨W',hrun,⟨zd3 h.row h2 (K1 h.row h.nm),h1,h.bmB,h.B.grown h2 h.B.size (fun k hk=>by cases hk;exact h.bmB)⟩,fun b t cs hb=>?_⟩;refine hb.kept h2 (fun e=>?_);obtain⟨D,⟨es,clock,h3,_⟩,_⟩:=h.nm;cases e;rw[show W.heap[bm]?=_ from hb] at h3;cases h3
theorem GS.app{w W W':World}{bm:Nat}{itV v':Value}{its nms:List It}{x:It}(h:GS w W bm itV its nms)(hown:W'.ownsRow w.heap.size 145 4 v' (its.length+1) (zf its++zr x))(hg:W.grownBy W' itV.ownBlock):GS w W' bm v' (its++[x]) nms:=by
 refine⟨?_,h.nm.block (hg.block bm h.nm.lt (fun e=>K1 h.row h.nm e.symm)),h.bmB,h.B.grown hg h.B.size (fun k hk=>(h.row.lt k hk).1)⟩;rw[Q9,List.length_append];simpa[zf] using hown
theorem Qr(w:World)(A B C D:Value)(t:TypeId):∀(j:Nat) (u:Value),[A,B,C,D][j]?=some u->(w.alloc (.cells #[A,B,C,D] t)).cell? (Addr.add ⟨w.heap.size,0,none⟩ j)=some u:=by
 intro j u h
 match j,h with
 |0,h=>simp at h;subst h;simp[Addr.add]
 |1,h=>simp at h;subst h;simp[Addr.add]
 |2,h=>simp at h;subst h;simp[Addr.add]
 |3,h=>simp at h;subst h;simp[Addr.add]
 |j+4,h=>simp at h
def zih(w:World)(r:Except (Int × Nat) (List It))(e:Ending)(w':World):Prop :=
 match r with
 |.ok its=>∃v,e=.returned (.tuple #[v,.nilIface])/\w'.ownsRow w.heap.size 145 4 v its.length (zf its)/\zB w w'
 |.error (k,i)=>∃N,e=.returned (.tuple #[.slice none 0 0,.iface 95 (.pointer (some ⟨N,0,none⟩))])/\Blk w' N 97 #[.int .i64 k,.int .i64 i]/\zB w w'
theorem JN{ls:List Ln}{i:Nat}(hi:i<ls.length)(its:List It):zE (ls.drop i) i its=(if zM (ls.getD i default) ≠ 0 then .error (zM (ls.getD i default),i)
  else if (ls.getD i default).kind=1 then
   if (ls.getD i default).it∈its then .error (9,i)
   else if 8<qD (its++[(ls.getD i default).it])\/its.length=24 then .error (4,i)
   else zE (ls.drop (i+1)) (i+1) (its++[(ls.getD i default).it])
  else zE (ls.drop (i + 1)) (i + 1) its):=by
 rw[zaB (d:=default) hi,zE]
theorem YN{x:Ln}(h:zM x=0):x.name.size<=12:=by
 unfold zM at h;split at h
 ·cases h
 ·split at h
  ·cases h
  ·rename_i h2
   by_cases hn:zh x.name
   ·exact hn.len
   ·exact absurd (Or.inl hn) h2
end
section
open Go.RowKit Go.Deep Go.Maps Sv
theorem JU(ls:List Ln)(lv:Value)(w:World)(h:yI w lv ls)(hl:ls.length<=100000) :
  zC 62 #[lv] w (zih w (zE ls 0 [])):=by
 obtain⟨R,hR⟩:∃R,zE ls 0 []=R:=⟨_,rfl⟩;rw[hR];have HR:=zH hR;have HL:=zH h;clear hR;obtain⟨la,lc,rfl,-⟩:∃la lc,lv=.slice la ls.length lc/\True:=by obtain⟨vs,_,h2⟩:=h;obtain⟨a,c,e,_⟩:=h2.form;exact⟨a,c,e,trivial⟩
 clear h;have hg0:GS w (w.alloc (.map #[] 0)) w.heap.size (.slice none 0 0) [] []:=⟨World.ownsRow_nil _ _ _ _,qX.made w,Nat.le_refl _,(Below.refl _ w).alloc zN _⟩;have HG0:=zH hg0;clear hg0;obtain⟨i0,hin,hz0,hz1,hz2⟩:=info_parts Ju;have hmm:=@run_makeMap Tryz.prog;go_enter Tryz.func62,Tryz.ntmps62;go_wp2_with fail;clear hmm;go_loopw [4,13] (fun itV iV wr=>∃(i:Nat) (its:List It),i<=ls.length/\iV=.int .i64 i/\its.length<=i/\zE (ls.drop i) i its=R/\GS w wr w.heap.size itV its its) (fun _ iV _=>ls.length-(intOf iV).toNat)
 case atStart=>exact⟨0,[],Nat.zero_le _,rfl,Nat.le_refl _,by rw[List.drop_zero];exact HR.out,HG0.out⟩
 case round =>
  obtain⟨i,its,hi,rfl,hil,hga,hgs⟩:=hrel;clear HR HG0;obtain⟨iva,ivc,rfl,-⟩:=(zD hgs.row).form
  by_cases hlt:i<ls.length
  ·obtain⟨g,cap',rv,e,hg,hsp,hrg,c0,c1,c2,c3,c4,c5,c6⟩:=(HL.out.below hgs.B zN).at i hlt;simp at e;obtain⟨rfl,rfl⟩:=e;rw[JN hlt] at hga;have HGA:=zH hga;clear hga hrg;generalize ls.getD i default=x at *;have HSP:=zH hsp;obtain⟨rra,rrc,rfl⟩:=hsp.form;clear hsp;have kx:=Blk.new wr 92 #[.int .i64 x.kind,.string x.name,.int .i64 x.a,.int .i64 x.b,.int .i64 x.c,.string x.other,.slice rra x.rng.length rrc];have hbx:zB wr (wr.alloc (.cells #[.int .i64 x.kind,.string x.name,.int .i64 x.a,.int .i64 x.b,.int .i64 x.c,.string x.other,.slice rra x.rng.length rrc] 92)):=zF.alloc zN _;have HG1:Hid (GS w (wr.alloc (.cells #[.int .i64 x.kind,.string x.name,.int .i64 x.a,.int .i64 x.b,.int .i64 x.c,.string x.other,.slice rra x.rng.length rrc] 92)) w.heap.size (.slice iva its.length ivc) its its):=hgs.step hbx;have HCHK:=zH (zb0 x (.slice rra x.rng.length rrc) (wr.alloc (.cells #[.int .i64 x.kind,.string x.name,.int .i64 x.a,.int .i64 x.b,.int .i64 x.c,.string x.other,.slice rra x.rng.length rrc] 92)) (HSP.out.below hbx zN));have HNM:Hid (zM x=0->x.name.size<=12):=YN;clear hgs hbx HSP;go_upto_region 6 with fail;clear c0 c1 c2 c3 c4 c5 c6;generalize wr.alloc (.cells #[.int .i64 x.kind,.string x.name,.int .i64 x.a,.int .i64 x.b,.int .i64 x.c,.string x.other,.slice rra x.rng.length rrc] 92)=W1 at *;generalize wr.heap.size=bx at *;have d0:_=some (Value.int .i64 x.kind):=kx.cell 0;have d1:_=some (Value.string x.name):=kx.cell 1;have d2:_=some (Value.int .i64 x.a):=kx.cell 2;have d3:_=some (Value.int .i64 x.b):=kx.cell 3;have d4:_=some (Value.int .i64 x.c):=kx.cell 4;have d5:_=some (Value.string x.other):=kx.cell 5;have d6:_=some (Value.slice rra x.rng.length rrc):=kx.cell 6;go_wp2_with fail;clear d0 d1 d2 d3 d4 d5 d6;refine HCHK.out.mono ?_;rintro e w2 ⟨rfl,hb2⟩;have kx2:=kx.below hb2 kx.lt;have HG2:=zH (HG1.out.step hb2);clear HCHK hb2 kx HG1
   by_cases hz:zM x=0
   ·have hnm:=HNM.out hz;rw[hz] at HGA ⊢;rw[if_neg (by simp)] at HGA;clear hz HNM
    by_cases hk:x.kind=1
    ·rw[if_pos hk] at HGA;have d0:_=some (Value.int .i64 x.kind):=kx2.cell 0;have d1:_=some (Value.string x.name):=kx2.cell 1;have d2:_=some (Value.int .i64 x.a):=kx2.cell 2;have d3:_=some (Value.int .i64 x.b):=kx2.cell 3;have d4:_=some (Value.int .i64 x.c):=kx2.cell 4;have d5:_=some (Value.string x.other):=kx2.cell 5;have d6:_=some (Value.slice rra x.rng.length rrc):=kx2.cell 6;rw[hk] at d0;have ki:=Blk.new w2 145 #[.string x.name,.int .i64 x.a,.int .i64 x.b,.int .i64 x.c];have hbi:zB w2 (w2.alloc (.cells #[.string x.name,.int .i64 x.a,.int .i64 x.b,.int .i64 x.c] 145)):=zF.alloc zN _;have HG3:=zH (HG2.out.step hbi);have kx3:=kx2.below hbi kx2.lt;clear hbi HG2 kx2;go_upto_region 9 with fail;clear d0 d1 d2 d3 d4 d5 d6;generalize w2.alloc (.cells #[.string x.name,.int .i64 x.a,.int .i64 x.b,.int .i64 x.c] 145)=W3 at *;generalize w2.heap.size=bi at *;obtain⟨w4,hrun,hgs4,hkeep⟩:=HG3.out.put (by omega) (x:=x.it) (show x.name.size<=100000 by omega);have hrun':(Instr.mapUpdate 185 (.map (some w.heap.size)) (.string x.name) (.agg #[])).run Tryz.prog W3=.ok () w4:=hrun;have ki4:=hkeep _ _ _ ki;have kx4:=hkeep _ _ _ kx3;have HG4:=zH hgs4;clear hrun hgs4 hkeep HG3;have d1:_=some (Value.string x.name):=kx3.cell 1;go_upto_region 10 with fail;clear d1 hrun' ki kx3;have hm0:=zhQ its x.it (.slice iva its.length ivc) w4 (zD HG4.out.row) (by omega)
     by_cases hm:x.it∈its
     ·rw[if_pos hm] at HGA;have HHAS:Hid (zR 96 #[.slice iva its.length ivc,.agg #[.string x.name,.int .i64 x.a,.int .i64 x.b,.int .i64 x.c]] w4 (.bool true)):=by have h:=hm0;rw[decide_eq_true hm] at h;exact h
      clear hm hm0;have e0:_=some (Value.string x.name):=ki4.cell 0;have e1:_=some (Value.int .i64 x.a):=ki4.cell 1;have e2:_=some (Value.int .i64 x.b):=ki4.cell 2;have e3:_=some (Value.int .i64 x.c):=ki4.cell 3;go_wp2_with fail;clear e0 e1 e2 e3;refine HHAS.out.mono ?_;rintro e w5 ⟨rfl,hb5⟩;have ki5:=ki4.below hb5 ki4.lt;have HG5:=zH (HG4.out.step hb5);clear HHAS hb5 ki4 HG4 kx4;have f0:_=some (Value.string x.name):=ki5.cell 0;have f1:_=some (Value.int .i64 x.a):=ki5.cell 1;have f2:_=some (Value.int .i64 x.b):=ki5.cell 2;have f3:_=some (Value.int .i64 x.c):=ki5.cell 3;have HROW:=zH HG5.out.row;have HGA5:=zH (HG5.out.step ((Below.refl _ w5).alloc zN (.cells #[.string x.name,.int .i64 x.a,.int .i64 x.b,.int .i64 x.c] 145)));have hws:=HG5.out.B.size;go_wp2_with (at_builtin;refine wpList_append_own_at _ rfl _ _ 105 rfl w.heap.size 145 i0 (.agg #[.string ⟨#[]⟩,.int .i64 0,.int .i64 0,.int .i64 0]) 4 40 Tryz.underlying105 hin hz0 hz1 hz2 rfl (by decide) _ _ _ rfl (HROW.out.alloc _) ⟨w5.heap.size,0,none⟩ 1 1 [.string x.name,.int .i64 x.a,.int .i64 x.b,.int .i64 x.c] rfl rfl ?c1a ?c2a ?c3a ?c4a ?c5a ?_)
      case c1a=>exact Qr _ _ _ _ _ _
      case c2a=>intro u hu;simp at hu;rcases hu with rfl|rfl|rfl|rfl<;>rfl
      case c3a=>unfold maxLen;omega
      case c4a=>omega
      case c5a=>simp;omega
      intro v7 w7 hown7 hgrow7 _ hloc7;have HG7:Hid (GS w w7 w.heap.size v7 (its++[x.it]) (its++[x.it])):=HGA5.out.app hown7 hgrow7;clear hown7 hgrow7 hloc7 HGA5 HROW f0 f1 f2 f3 hws;have HBF:Hid (zB w (w7.alloc (.cells #[.int .i64 9,.int .i64 i] 97))):=zL HG7.out.B;have HKF:Hid (Blk (w7.alloc (.cells #[.int .i64 9,.int .i64 i] 97)) w7.heap.size 97 #[.int .i64 9,.int .i64 i]):=Blk.new _ _ _;clear HG7;go_wp2;go_ret2;rw[<-HGA.out];exact⟨_,rfl,HKF.out,HBF.out⟩
     ·rw[if_neg hm] at HGA;have HHAS:Hid (zR 96 #[.slice iva its.length ivc,.agg #[.string x.name,.int .i64 x.a,.int .i64 x.b,.int .i64 x.c]] w4 (.bool false)):=by have h:=hm0;rw[decide_eq_false hm] at h;exact h
      clear hm hm0;have e0:_=some (Value.string x.name):=ki4.cell 0;have e1:_=some (Value.int .i64 x.a):=ki4.cell 1;have e2:_=some (Value.int .i64 x.b):=ki4.cell 2;have e3:_=some (Value.int .i64 x.c):=ki4.cell 3;go_wp2_with fail;clear e0 e1 e2 e3;refine HHAS.out.mono ?_;rintro e w5 ⟨rfl,hb5⟩;have ki5:=ki4.below hb5 ki4.lt;have HG5:=zH (HG4.out.step hb5);clear HHAS hb5 ki4 HG4 kx4;have hlenN:=fun ty=>HG5.out.nm.len ty;generalize hN:qD (its++[x.it])=N at *;clear hN
      by_cases h8:8<N
      ·rw[if_pos (Or.inl h8)] at HGA;have h8':(8:Int)<(N:Int):=by omega
       have f0:_=some (Value.string x.name):=ki5.cell 0;have f1:_=some (Value.int .i64 x.a):=ki5.cell 1;have f2:_=some (Value.int .i64 x.b):=ki5.cell 2;have f3:_=some (Value.int .i64 x.c):=ki5.cell 3;have HROW:=zH HG5.out.row;have HGA5:=zH (HG5.out.step ((Below.refl _ w5).alloc zN (.cells #[.string x.name,.int .i64 x.a,.int .i64 x.b,.int .i64 x.c] 145)));have hws:=HG5.out.B.size;go_wp2_with (at_builtin;refine wpList_append_own_at _ rfl _ _ 105 rfl w.heap.size 145 i0 (.agg #[.string ⟨#[]⟩,.int .i64 0,.int .i64 0,.int .i64 0]) 4 40 Tryz.underlying105 hin hz0 hz1 hz2 rfl (by decide) _ _ _ rfl (HROW.out.alloc _) ⟨w5.heap.size,0,none⟩ 1 1 [.string x.name,.int .i64 x.a,.int .i64 x.b,.int .i64 x.c] rfl rfl ?c1b ?c2b ?c3b ?c4b ?c5b ?_)
       case c1b=>exact Qr _ _ _ _ _ _
       case c2b=>intro u hu;simp at hu;rcases hu with rfl|rfl|rfl|rfl<;>rfl
       case c3b=>unfold maxLen;omega
       case c4b=>omega
       case c5b=>simp;omega
       intro v7 w7 hown7 hgrow7 _ hloc7;have HG7:Hid (GS w w7 w.heap.size v7 (its++[x.it]) (its++[x.it])):=HGA5.out.app hown7 hgrow7;clear hown7 hgrow7 hloc7 HGA5 HROW f0 f1 f2 f3 hws;have HBF:Hid (zB w (w7.alloc (.cells #[.int .i64 4,.int .i64 i] 97))):=zL HG7.out.B;have HKF:Hid (Blk (w7.alloc (.cells #[.int .i64 4,.int .i64 i] 97)) w7.heap.size 97 #[.int .i64 4,.int .i64 i]):=Blk.new _ _ _;clear HG7;go_wp2;go_ret2;rw[<-HGA.out];exact⟨_,rfl,HKF.out,HBF.out⟩
      ·have h8':¬(8:Int)<(N:Int):=by omega
       by_cases h24:its.length=24
       ·rw[if_pos (Or.inr h24)] at HGA;have hq:((its.length:Int)==24)=true:=by rw[h24];rfl
        clear h24;have f0:_=some (Value.string x.name):=ki5.cell 0;have f1:_=some (Value.int .i64 x.a):=ki5.cell 1;have f2:_=some (Value.int .i64 x.b):=ki5.cell 2;have f3:_=some (Value.int .i64 x.c):=ki5.cell 3;have HROW:=zH HG5.out.row;have HGA5:=zH (HG5.out.step ((Below.refl _ w5).alloc zN (.cells #[.string x.name,.int .i64 x.a,.int .i64 x.b,.int .i64 x.c] 145)));have hws:=HG5.out.B.size;go_wp2_with (at_builtin;refine wpList_append_own_at _ rfl _ _ 105 rfl w.heap.size 145 i0 (.agg #[.string ⟨#[]⟩,.int .i64 0,.int .i64 0,.int .i64 0]) 4 40 Tryz.underlying105 hin hz0 hz1 hz2 rfl (by decide) _ _ _ rfl (HROW.out.alloc _) ⟨w5.heap.size,0,none⟩ 1 1 [.string x.name,.int .i64 x.a,.int .i64 x.b,.int .i64 x.c] rfl rfl ?c1c ?c2c ?c3c ?c4c ?c5c ?_)
        case c1c=>exact Qr _ _ _ _ _ _
        case c2c=>intro u hu;simp at hu;rcases hu with rfl|rfl|rfl|rfl<;>rfl
        case c3c=>unfold maxLen;omega
        case c4c=>omega
        case c5c=>simp;omega
        intro v7 w7 hown7 hgrow7 _ hloc7;have HG7:Hid (GS w w7 w.heap.size v7 (its++[x.it]) (its++[x.it])):=HGA5.out.app hown7 hgrow7;clear hown7 hgrow7 hloc7 HGA5 HROW f0 f1 f2 f3 hws;have HBF:Hid (zB w (w7.alloc (.cells #[.int .i64 4,.int .i64 i] 97))):=zL HG7.out.B;have HKF:Hid (Blk (w7.alloc (.cells #[.int .i64 4,.int .i64 i] 97)) w7.heap.size 97 #[.int .i64 4,.int .i64 i]):=Blk.new _ _ _;clear HG7;go_wp2;go_ret2;rw[<-HGA.out];exact⟨_,rfl,HKF.out,HBF.out⟩
       ·rw[if_neg (fun h=>h.elim h8 h24)] at HGA;have hq:((its.length:Int)==24)=false:=by rw[beq_eq_false_iff_ne];omega
        clear h24;have f0:_=some (Value.string x.name):=ki5.cell 0;have f1:_=some (Value.int .i64 x.a):=ki5.cell 1;have f2:_=some (Value.int .i64 x.b):=ki5.cell 2;have f3:_=some (Value.int .i64 x.c):=ki5.cell 3;have HROW:=zH HG5.out.row;have HGA5:=zH (HG5.out.step ((Below.refl _ w5).alloc zN (.cells #[.string x.name,.int .i64 x.a,.int .i64 x.b,.int .i64 x.c] 145)));have hws:=HG5.out.B.size;go_wp2_with (at_builtin;refine wpList_append_own_at _ rfl _ _ 105 rfl w.heap.size 145 i0 (.agg #[.string ⟨#[]⟩,.int .i64 0,.int .i64 0,.int .i64 0]) 4 40 Tryz.underlying105 hin hz0 hz1 hz2 rfl (by decide) _ _ _ rfl (HROW.out.alloc _) ⟨w5.heap.size,0,none⟩ 1 1 [.string x.name,.int .i64 x.a,.int .i64 x.b,.int .i64 x.c] rfl rfl ?c1d ?c2d ?c3d ?c4d ?c5d ?_)
        case c1d=>exact Qr _ _ _ _ _ _
        case c2d=>intro u hu;simp at hu;rcases hu with rfl|rfl|rfl|rfl<;>rfl
        case c3d=>unfold maxLen;omega
        case c4d=>omega
        case c5d=>simp;omega
        intro v7 w7 hown7 hgrow7 _ hloc7;have HG7:Hid (GS w w7 w.heap.size v7 (its++[x.it]) (its++[x.it])):=HGA5.out.app hown7 hgrow7;clear hown7 hgrow7 hloc7 HGA5 HROW f0 f1 f2 f3 hws;go_wp2;go_roundw
        case rel=>exact⟨i+1,its++[x.it],by omega,by go_num,by simp;omega,HGA.out,HG7.out⟩
        case measure=>simp[intOf];omega
    ·rw[if_neg hk] at HGA;have hk2:(x.kind==1)=false:=by simpa using hk
     have d0:_=some (Value.int .i64 x.kind):=kx2.cell 0;clear kx2 hk;go_wp2;go_roundw
     case rel=>exact⟨i+1,its,by omega,by go_num,by omega,HGA.out,HG2.out⟩
     case measure=>simp[intOf];omega
   ·have hz2:(zM x==0)=false:=by simpa using hz
    rw[if_pos hz] at HGA;generalize zM x=E at *;have HBF:Hid (zB w (w2.alloc (.cells #[.int .i64 E,.int .i64 i] 97))):=zL HG2.out.B;have HKF:Hid (Blk (w2.alloc (.cells #[.int .i64 E,.int .i64 i] 97)) w2.heap.size 97 #[.int .i64 E,.int .i64 i]):=Blk.new _ _ _;clear HG2 kx2 hz HNM;go_wp2;go_ret2;rw[<-HGA.out];exact⟨_,rfl,HKF.out,HBF.out⟩
  ·obtain rfl:i=ls.length:=by omega
   have hga2:R=.ok its:=by rw[<-hga,List.drop_length,zE]
   have HGA:=zH hga2;have HGS:=zH hgs;clear hga hga2 hgs;go_wp2;go_ret2;rw[HGA.out];exact⟨_,rfl,HGS.out.row,HGS.out.B⟩
end
end Go.Proofs.YtlamemjfaogjmaaGreatDoor

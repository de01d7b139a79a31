/- The reference: CatalogCheck. -/
import Derived.Test.YtlamemjfaogjmaaGreatDoorRlChk
set_option maxHeartbeats 4000000
set_option maxRecDepth 100000
namespace Go.Proofs.YtlamemjfaogjmaaGreatDoor
section
open Go.RowKit Sv
theorem zfY(x:Ln)(ra:Option Addr)(rc:Nat)(w:World) :
  zR 54 #[.agg #[.int .i64 x.kind,.string x.name,.int .i64 x.a,.int .i64 x.b,.int .i64 x.c,.string x.other,.slice ra (tp x.rng).length rc]] w (.int .i64 (zM x)):=by
 obtain⟨k,n,a,b,c,o,r⟩:=x;unfold zM Ln.pair;simp only
 by_cases hk:k<1\/4<k
 ·rw[if_pos hk];rcases hk with hk|hk
  ·exact KQ k n o a b c ra (tp r).length rc w (by omega)
  ·exact KQ k n o a b c ra (tp r).length rc w (by omega)
 rw[if_neg hk];have hk4:k=1\/k=2\/k=3\/k=4:=by omega
 by_cases hn:zh n
 ·rcases hk4 with rfl|rfl|rfl|rfl
  ·have h1:¬(¬zh n\/(((1:Int)=2\/(1:Int)=3)/\¬zh o)):=by
    rintro (h|⟨h,_⟩)
    ·exact h hn
    ·omega
   rw[if_neg h1]
   by_cases ho:o.size≠0
   ·rw[if_pos ⟨by omega,ho⟩];exact zfp n o a b c ra (tp r).length rc w hn (by omega)
   ·rw[if_neg (fun h=>ho h.2)];obtain rfl:=xv (s:=o) (by omega);cases r with
    |nil =>
     rw[if_neg (fun h=>h.2 rfl),if_neg (by omega)];refine(zik n a b c ra rc w hn).mono fun e w' ⟨h1,h2⟩=>⟨?_,h2⟩;rw[h1]
     by_cases hi:InV a b c
     ·rw[if_pos hi,if_neg (fun h=>h hi)]
     ·rw[if_neg hi,if_pos hi]
    |cons s r =>rw[if_pos ⟨rfl,by simp⟩];exact zbT n a b c ra (tp (s :: r)).length rc w hn (by simp[tp])
  ·by_cases ho:zh o
   ·have h1:¬(¬zh n\/(((2:Int)=2\/(2:Int)=3)/\¬zh o)):=by
     rintro (h|⟨_,h⟩)
     ·exact h hn
     ·exact h ho
    rw[if_neg h1,if_neg (fun h=>h.1 (Or.inl rfl)),if_neg (by omega),if_neg (by omega)];refine(zhE n o a b c ra (tp r).length rc w hn ho).mono fun e w' ⟨h1,h2⟩=>⟨?_,h2⟩;rw[h1]
    by_cases hi:InV a b c
    ·rw[if_pos hi,if_neg (fun h=>h hi)]
    ·rw[if_neg hi,if_pos hi]
   ·rw[if_pos (Or.inr ⟨Or.inl rfl,ho⟩)];exact zdj n o a b c ra (tp r).length rc w hn ho
  ·by_cases ho:zh o
   ·have h1:¬(¬zh n\/(((3:Int)=2\/(3:Int)=3)/\¬zh o)):=by
     rintro (h|⟨_,h⟩)
     ·exact h hn
     ·exact h ho
    rw[if_neg h1,if_neg (fun h=>h.1 (Or.inr rfl)),if_neg (by omega),if_neg (by omega)];refine(zcU n o a b c ra (tp r).length rc w hn ho).mono fun e w' ⟨h1,h2⟩=>⟨?_,h2⟩;rw[h1]
    by_cases hi:InV a b c
    ·rw[if_pos hi,if_neg (fun h=>h hi)]
    ·rw[if_neg hi,if_pos hi]
   ·rw[if_pos (Or.inr ⟨Or.inr rfl,ho⟩)];exact zdf n o a b c ra (tp r).length rc w hn ho
  ·have h1:¬(¬zh n\/(((4:Int)=2\/(4:Int)=3)/\¬zh o)):=by
    rintro (h|⟨h,_⟩)
    ·exact h hn
    ·omega
   rw[if_neg h1]
   by_cases ho:o.size≠0
   ·rw[if_pos ⟨by omega,ho⟩];exact zdU n o a b c ra (tp r).length rc w hn (by omega)
   ·rw[if_neg (fun h=>ho h.2),if_neg (by omega)];obtain rfl:=xv (s:=o) (by omega)
    by_cases hz:a≠0\/b≠0\/c≠0
    ·rw[if_pos ⟨rfl,hz⟩];refine zeI n a b c ra (tp r).length rc w hn ?_
     by_cases h0:a=0
     ·by_cases h1:b=0
      ·have h2:c≠0:=by omega
       simp[h2]
      ·simp[h1]
     ·simp[h0]
    ·rw[if_neg (fun h=>hz h.2)];obtain rfl:a=0:=by omega
     obtain rfl:b=0:=by omega
     obtain rfl:c=0:=by omega
     rw[if_neg (fun h=>h (by decide))];exact(zbd n 0 0 0 ra (tp r).length rc w hn (by decide)).mono fun e w' ⟨h1,h2⟩=>⟨by rw[h1,if_pos (by decide)],h2⟩
 ·rw[if_pos (Or.inl hn)];rcases hk4 with rfl|rfl|rfl|rfl
  ·exact zbm n o a b c ra (tp r).length rc w hn
  ·exact zh9 n o a b c ra (tp r).length rc w hn
  ·exact zdt n o a b c ra (tp r).length rc w hn
  ·exact zeL n o a b c ra (tp r).length rc w hn
end
section
open Go.RowKit Go.Deep Go.Maps
def Z5:Value->Option (DataW Unit × List MemPlace)
 |.bool b=>some (.lit (.bool b),[])
 |_=>none
theorem Xb(b:Bool):Z5 (.bool b)=some (.lit (.bool b),[]):=rfl
theorem Kz{v:Value}{b:Bool}{ps:List MemPlace}(h:Z5 v=some (.lit (.bool b),ps)):v=.bool b:=by
 unfold Z5 at h;split at h
 ·simp at h;rw[h.1]
 ·cases h
theorem zfA(w:World):(zeroValue 4).run Tryz.prog w=.ok (.bool false) w:=by kernel_rfl
def qW(w:World)(bm:Nat)(l:List It):Prop:=∃D,w.ownsMap Tryz.prog 9 Z5 bm (qD l) D/\yX (fun _:Unit=>.lit (.bool true)) D (yO l) (qD l)
theorem qW.made(w:World):qW (w.alloc (.map #[] 0)) w.heap.size []:=⟨.map [],World.ownsMap_made w _ _ _,yX.empty⟩
theorem qW.below{B:Nat}{w w':World}{bm:Nat}{l:List It}(h:qW w bm l)(hb:Below B w w')(hB:w.heap.size<=B):qW w' bm l:=by
 obtain⟨D,h1,h2⟩:=h;exact⟨D,QZ h1 (hb.mono hB),h2⟩
theorem qW.lt{w:World}{bm:Nat}{l:List It}(h:qW w bm l):bm<w.heap.size:=by obtain⟨D,h1,_⟩:=h;exact h1.lt
theorem qW.block{w w':World}{bm:Nat}{l:List It}(h:qW w bm l)(hb:w'.heap[bm]?=w.heap[bm]?):qW w' bm l:=by
 obtain⟨D,⟨es,clock,h1,h2⟩,hR⟩:=h;exact⟨D,⟨es,clock,hb.trans h1,h2⟩,hR⟩
theorem qW.put{w:World}{bm:Nat}{l:List It}(h:qW w bm l)(hl:l.length<1000000){x:It}(hs:x.name.size<=100000) :
  ∃w',(Instr.mapUpdate 120 (.map (some bm)) (.string x.name) (.bool true)).run Tryz.prog w=.ok () w'/\qW w' bm (l++[x])/\w.grownBy w' (some bm):=by
 obtain⟨D,hD,hR⟩:=h;have hle:=Jc l;obtain⟨w',hrun,g1,k1⟩:=hD.update ZM Tryz.underlying120 (by unfold maxLen;omega) (Qo hs) (Xb true);have hR1:=hR.put x.name ();have e1:(fun c=>if c=x.name then some () else yO l c)=yO (l++[x]):=by
  funext c;unfold yO
  by_cases h:c=x.name
  ·simp[h]
  ·simp[h]
 have e2:(if (yO l x.name).isSome then qD l else qD l+1)=qD (l++[x]):=by
  rw[Jb];unfold yO
  by_cases h:x.name∈l.map It.name
  ·rw[if_pos h,if_pos h];rfl
  ·rw[if_neg h,if_neg h];rfl
 rw[e1,e2] at hR1;exact⟨w',hrun,⟨_,hR1.size▸QJ g1,hR1⟩,k1⟩
theorem qW.len{w:World}{bm:Nat}{l:List It}(h:qW w bm l)(ty:TypeId):(Builtin.len_ #[120] ty #[.map (some bm)]).run Tryz.prog w=.ok (.int .i64 (qD l)) w:=by
 obtain⟨D,hD,hR⟩:=h;rw[hD.len Tryz.underlying120 ty,hR.size]
theorem zhF:laidOutB Tryz.prog=true:=by kernel_rfl
theorem zeR:(62:TypeId)<Tryz.prog.types.size:=of_decide_eq_true (by kernel_rfl)
theorem zg7:(match Tryz.prog.underlying 62 with|some (.array _ _)|some (.struct _)=>true|_=>false)=true:=by rw[Tryz.underlying62]
theorem Xa:Keyed Tryz.prog 62:=Keyed.of_law (deep_law_laid zhF (m:=3) (by omega) zeR (by kernel_rfl) zg7)
theorem zgJ:Tryz.prog.keyType 62=true:=by kernel_rfl
theorem Jd:Tryz.prog.cellsOf 62=4:=by kernel_rfl
theorem J3:Tryz.prog.cellsOf 56=3:=by kernel_rfl
theorem zgI:Tryz.prog.cellsOf 3=1:=by kernel_rfl
theorem zaW:Tryz.prog.cellsOf 9=1:=by kernel_rfl
def itV(x:It):Value:=.agg #[.string x.name,.int .i64 x.a,.int .i64 x.b,.int .i64 x.c]
def xq(x:It):Prop:=x.name.size<=100000/\(0<=x.a/\x.a<=999)/\(0<=x.b/\x.b<=999)/\0<=x.c/\x.c<=999
def xJ(x:It):Lit:=.string (keyBytes [.string x.name.data.toList,.int .i64 x.a,.int .i64 x.b,.int .i64 x.c])
theorem zbX{m:Int}(h:0<=m/\m<=999):(Lit.int .i64 m).wf=true:=by
 simp[Lit.wf,IntKind.min,IntKind.max,IntKind.signed,IntKind.bits];omega
theorem Xd(d:Nat){m:Int}(h:0<=m/\m<=999):Tryz.prog.keyLits (d+1) 3 [.int .i64 m]=some [.int .i64 m]:=by
 unfold Program.keyLits;rw[Tryz.underlying3];simp[zbX h]
theorem zbz(d:Nat){s:ByteArray}(h:s.size<=100000):Tryz.prog.keyLits (d+1) 9 [.string s]=some [.string s.data.toList]:=by
 unfold Program.keyLits;rw[Tryz.underlying9];have h2:s.size<=maxLen:=by unfold maxLen;omega
 simp[h2]
theorem zhq(d:Nat){a b c:Int}(ha:0<=a/\a<=999)(hb:0<=b/\b<=999)(hc:0<=c/\c<=999):Tryz.prog.keyLits (d+2) 56 [.int .i64 a,.int .i64 b,.int .i64 c]=some [.int .i64 a,.int .i64 b,.int .i64 c]:=by
 unfold Program.keyLits;rw[Tryz.underlying56];have e:List.range 3=[0,1,2]:=rfl;simp[J3,zgI,e,Xd d ha,Xd d hb,Xd d hc]
theorem QR(x:It)(h:xq x):keyOf Tryz.prog 62 (itV x)=some (xJ x):=by
 have hf:(itV x).formed Tryz.prog 62=true:=by simp[Value.formed,Tryz.underlying62,Jd,itV]
 unfold keyOf;rw[Tryz.underlying62];simp only[zgJ,hf,Bool.and_self,if_true];obtain⟨d,hd⟩:∃d,Tryz.prog.types.size+1=d+3:=⟨Tryz.prog.types.size-2,by have:3<Tryz.prog.types.size:=of_decide_eq_true (by kernel_rfl);omega⟩;rw[hd];have hc:(itV x).cells.toList=[.string x.name,.int .i64 x.a,.int .i64 x.b,.int .i64 x.c]:=rfl;rw[hc];unfold Program.keyLits;rw[Tryz.underlying62];simp[Jd,J3,zaW,zbz (d+1) h.1,zhq d h.2.1 h.2.2.1 h.2.2.2,xJ]
theorem zhX{x y:It}(hx:xq x)(hy:xq y)(h:xJ x=xJ y):x=y:=by
 have:=Xa.inj (QR x hx) (h▸QR y hy);obtain⟨n,a,b,c⟩:=x;obtain⟨n',a',b',c'⟩:=y;simp[itV] at this;obtain⟨rfl,rfl,rfl,rfl⟩:=this;rfl
def xH(l:List It):List (It × Unit):=l.map fun s=>(s,())
theorem zau(l:List It):(xH l).map Prod.fst=l:=by unfold xH;rw[List.map_map];simp[Function.comp_def]
def JS(D:DataW Unit)(l:List It):Prop:=Rep xq xJ (fun _:Unit=>.lit (.bool true)) D (xH l)
def qA(w:World)(bm:Nat)(l:List It):Prop:=∃D,w.ownsMap Tryz.prog 62 Z5 bm l.length D/\JS D l
theorem qA.lt{w:World}{bm:Nat}{l:List It}(h:qA w bm l):bm<w.heap.size:=by obtain⟨D,hD,_⟩:=h;exact hD.lt
theorem qA.made(w:World):qA (w.alloc (.map #[] 0)) w.heap.size []:=⟨.map [],World.ownsMap_made w _ _ _,Rep.empty⟩
theorem qA.block{w w':World}{bm:Nat}{l:List It}(h:qA w bm l)(hb:w'.heap[bm]?=w.heap[bm]?):qA w' bm l:=by
 obtain⟨D,⟨es,clock,h1,h2⟩,hR⟩:=h;exact⟨D,⟨es,clock,hb.trans h1,h2⟩,hR⟩
theorem qA.below{B:Nat}{w w':World}{bm:Nat}{l:List It}(h:qA w bm l)(hb:Below B w w')(hB:w.heap.size<=B):qA w' bm l:=by
 obtain⟨D,h1,h2⟩:=h;exact⟨D,QZ h1 (hb.mono hB),h2⟩
theorem qA.look{w:World}{bm:Nat}{l:List It}(h:qA w bm l){x:It}(hx:xq x) :
  (Instr.lookup 121 (.map (some bm)) (.agg #[.string x.name,.int .i64 x.a,.int .i64 x.b,.int .i64 x.c]) false).run Tryz.prog w=.ok (.bool (decide (x∈l))) w:=by
 obtain⟨D,hD,hR⟩:=h;obtain⟨v,ps,hrun,hv⟩:=hD.lookup Xa Tryz.underlying121 (zfA w) (Xb false) (QR x hx)
 by_cases hm:x∈l
 ·rw[show D.atKey (xJ x) (.lit (.bool false))=.lit (.bool true) from hR.at' (x,()) (by unfold xH;exact List.mem_map.2 ⟨x,hm,rfl⟩) _] at hv;rw[Kz hv] at hrun;rw[decide_eq_true hm];exact hrun
 ·have hn:Maps.has D (xJ x)=false:=Rep.not hR hx (by rw[zau];exact hm);rw[atKey_of_not_has hn] at hv;rw[Kz hv] at hrun;rw[decide_eq_false hm];exact hrun
theorem qA.put{w:World}{bm:Nat}{l:List It}(h:qA w bm l)(hl:l.length<1000000){x:It}(hx:xq x)(hn:x∉l) :
  ∃w',(Instr.mapUpdate 121 (.map (some bm)) (.agg #[.string x.name,.int .i64 x.a,.int .i64 x.b,.int .i64 x.c]) (.bool true)).run Tryz.prog w=.ok () w'/\qA w' bm (l++[x])/\w.grownBy w' (some bm):=by
 obtain⟨D,hD,hR⟩:=h;obtain⟨w',hrun,g1,k1⟩:=hD.update Xa Tryz.underlying121 (by unfold maxLen;omega) (QR x hx) (Xb true);have hR1:JS (D.put (xJ x) (.lit (.bool true))) (l++[x]):=by
  have:=Rep.put hR (fun a b ha hb e=>zhX ha hb e) (fun _=>trivial) hx (by rw[zau];exact hn) ();show Rep _ _ _ _ (xH (l++[x]));unfold xH at *;rw[List.map_append];exact this
 refine⟨w',hrun,⟨_,?_,hR1⟩,k1⟩;have h2:=hR1.size;unfold xH at h2;rw[List.length_map] at h2;exact h2▸QJ g1
theorem qA.len{w:World}{bm:Nat}{l:List It}(h:qA w bm l)(ty:TypeId):(Builtin.len_ #[121] ty #[.map (some bm)]).run Tryz.prog w=.ok (.int .i64 l.length) w:=by
 obtain⟨D,hD,hR⟩:=h;rw[hD.len Tryz.underlying121 ty,hR.size,xH,List.length_map]
theorem qW.ne{w:World}{bm b:Nat}{l:List It}{t:TypeId}{cs:Array Value}(h:qW w bm l)(hb:Blk w b t cs):bm≠b:=by
 rintro rfl;obtain⟨D,⟨es,clock,h1,_⟩,_⟩:=h;have:=h1.symm.trans hb;cases this
theorem qA.ne{w:World}{bm b:Nat}{l:List It}{t:TypeId}{cs:Array Value}(h:qA w bm l)(hb:Blk w b t cs):bm≠b:=by
 rintro rfl;obtain⟨D,⟨es,clock,h1,_⟩,_⟩:=h;have:=h1.symm.trans hb;cases this
end
section
open Go.RowKit Go.Deep Go.Maps Sv
def RLs(w:World)(v:Value)(ls:List Ln):Prop:=∃vs,(vs.length=ls.length/\∀i,i<ls.length->NsAt w (vs.getD i undef) (tp (ls.getD i default).rng)/\Rg (ls.getD i default).rng)/\qt w v ls.length (zG ls vs)
theorem RLs.below{B:Nat}{w w':World}{v:Value}{l:List Ln}(h:RLs w v l)(hb:Below B w w')(hB:w.heap.size<=B):RLs w' v l:=by
 obtain⟨vs,⟨h1,h2⟩,h3⟩:=h;exact⟨vs,⟨h1,fun i hi=>⟨(h2 i hi).1.below hb hB,(h2 i hi).2⟩⟩,h3.below hb hB⟩
theorem RLs.at{w:World}{v:Value}{l:List Ln}(h:RLs w v l)(i:Nat)(hi:i<l.length):∃g cap ra rc,v=.slice (some ⟨g,0,none⟩) l.length cap/\g<w.heap.size/\NsAt w (.slice ra (tp (l.getD i default).rng).length rc) (tp (l.getD i default).rng)/\Rg (l.getD i default).rng/\w.cell? ⟨g,i*7,none⟩=some (.int .i64 (l.getD i default).kind)/\w.cell? ⟨g,i*7+1,none⟩=some (.string (l.getD i default).name)/\w.cell? ⟨g,i*7+2,none⟩=some (.int .i64 (l.getD i default).a)/\w.cell? ⟨g,i*7+3,none⟩=some (.int .i64 (l.getD i default).b)/\w.cell? ⟨g,i*7+4,none⟩=some (.int .i64 (l.getD i default).c)/\w.cell? ⟨g,i*7+5,none⟩=some (.string (l.getD i default).other)/\w.cell? ⟨g,i*7+6,none⟩=some (.slice ra (tp (l.getD i default).rng).length rc):=by
 obtain⟨vs,⟨h1,h1'⟩,h2⟩:=h;obtain⟨g,cap,e,hg,hc⟩:=h2.cells (by omega);have H:=fun j u hu=>hc _ _ (Y9 l vs h1 i hi j u hu);have hN:=(h1' i hi).1;obtain⟨ra,rc,hf⟩:=hN.form;have h6:w.cell? ⟨g,i*7+6,none⟩=some (vs.getD i undef):=H 6 _ rfl;rw[hf] at hN h6;exact⟨g,cap,ra,rc,e,hg,hN,(h1' i hi).2,H 0 _ rfl,H 1 _ rfl,H 2 _ rfl,H 3 _ rfl,H 4 _ rfl,H 5 _ rfl,h6⟩
def xI:Except (Int × Option Nat) (List It)->Int × Int
 |.ok _=>(0,-1)
 |.error (q,o)=>(q,placeO o)
theorem Ke(its its':List It)(h:∀x,x∈its↔x∈its'):∀(ls:List Ln) (i:Nat),zI ls i its=zI ls i its':=by
 intro ls
 induction ls with
 |nil=>intro i;rfl
 |cons x r ih =>
  intro i;unfold zI;rw[ih (i+1)]
  by_cases hp:x.pair/\x.it∉its
  ·rw[if_pos hp,if_pos ⟨hp.1,fun e=>hp.2 ((h _).2 e)⟩]
  ·rw[if_neg hp,if_neg (fun e=>hp ⟨e.1,fun e'=>e.2 ((h _).1 e')⟩)]
theorem zhx{ls:List Ln}(h:100<ls.length):xI (zk ls)=(4,-1):=by unfold zk;rw[if_pos h];rfl
theorem Qv{ls:List Ln}(h:¬100<ls.length){k:Int}{i:Nat}(hg:zE ls 0 []=.error (k,i)):xI (zk ls)=(k,(i:Int)):=by unfold zk;rw[if_neg h,hg];rfl
theorem zcq{ls:List Ln}(h:¬100<ls.length){its:List It}(hg:zE ls 0 []=.ok its){i:Nat}(hm:zI ls 0 its=some i):xI (zk ls)=(7,(i:Int)):=by
 unfold zk;rw[if_neg h,hg];simp only;rw[Ke (qq its) its (fun x=>(xP its).mem_iff),hm];rfl
theorem zdF{ls:List Ln}(h:¬100<ls.length){its:List It}(hg:zE ls 0 []=.ok its)(hm:zI ls 0 its=none):xI (zk ls)=(0,-1):=by
 unfold zk;rw[if_neg h,hg];simp only;rw[Ke (qq its) its (fun x=>(xP its).mem_iff),hm];rfl
theorem zen:∀(ls:List Ln) (i:Nat) (its out:List It),zE ls i its=.ok out->∀x∈ls,zM x=0:=by
 intro ls
 induction ls with
 |nil=>intro i its out _ x hx;cases hx
 |cons y r ih =>
  intro i its out h x hx;unfold zE at h;split at h
  ·cases h
  ·rename_i hz;rcases List.mem_cons.1 hx with rfl|hx
   ·exact Classical.byContradiction fun h=>hz h
   ·split at h
    ·split at h
     ·cases h
     ·split at h
      ·cases h
      ·exact ih _ _ _ h x hx
    ·exact ih _ _ _ h x hx
theorem KF{x:Ln}(h:zM x=0):xq x.it:=by
 have hn:=YN h;unfold zM at h;split at h
 ·cases h
 ·split at h
  ·cases h
  ·split at h
   ·cases h
   ·split at h
    ·cases h
    ·split at h
     ·cases h
     ·split at h
      ·cases h
      ·rename_i hi;have hi:InV x.a x.b x.c:=Classical.byContradiction fun e=>hi e;exact⟨show x.name.size<=100000 by omega,hi⟩
theorem yF{w W:World}{b:Nat}(h:Blk W b 45 #[.int .i64 0,.int .i64 0])(hB:zB w W)(hb:w.heap.size<=b)(m pl:Int) :
  ((W.setCell ⟨b,0,none⟩ (.int .i64 m)).cell? ⟨b,1,none⟩=some (.int .i64 0)/\(W.setCell ⟨b,0,none⟩ (.int .i64 m)).frozen? ⟨b,1,none⟩=false) /\
  ((W.setCell ⟨b,0,none⟩ (.int .i64 m)).setCell ⟨b,1,none⟩ (.int .i64 pl)).cell? ⟨b,0,none⟩=some (.int .i64 m) /\
  ((W.setCell ⟨b,0,none⟩ (.int .i64 m)).setCell ⟨b,1,none⟩ (.int .i64 pl)).cell? ⟨b,1,none⟩=some (.int .i64 pl) /\
  zB w ((W.setCell ⟨b,0,none⟩ (.int .i64 m)).setCell ⟨b,1,none⟩ (.int .i64 pl)):=by
 have h1:=h.set (i:=0) (v:=.int .i64 m);have h2:=h1.set (i:=1) (v:=.int .i64 pl);exact⟨⟨h1.cell 1,h1.frozen 1⟩,h2.cell 0,h2.cell 1,(hB.setCell hb _).setCell hb _⟩
structure CS(w W:World)(its:List It):Prop where
 nm:qW W (w.heap.size+1) its
 al:qA W (w.heap.size+2) its
 f:Blk W w.heap.size 45 #[.int .i64 0,.int .i64 0]
 B:zB w W
theorem CS.step{w W W':World}{its:List It}(h:CS w W its)(hb:zB W W'):CS w W' its :=
 ⟨h.nm.below hb zN,h.al.below hb zN,h.f.below hb h.f.lt,zT h.B hb⟩
theorem CS.made(w:World):CS w (((w.alloc (.cells #[.int .i64 0,.int .i64 0] 45)).alloc (.map #[] 0)).alloc (.map #[] 0)) []:=by
 have h1:=qW.made (w.alloc (.cells #[.int .i64 0,.int .i64 0] 45));have h2:=qA.made ((w.alloc (.cells #[.int .i64 0,.int .i64 0] 45)).alloc (.map #[] 0));have h3:Below ((w.alloc (.cells #[.int .i64 0,.int .i64 0] 45)).alloc (.map #[] 0)).heap.size ((w.alloc (.cells #[.int .i64 0,.int .i64 0] 45)).alloc (.map #[] 0)) (((w.alloc (.cells #[.int .i64 0,.int .i64 0] 45)).alloc (.map #[] 0)).alloc (.map #[] 0)):=zF.alloc zN _;have h4:=h1.below h3 zN;simp only[World.size_alloc] at h2 h4;have h5:zB w (w.alloc (.cells #[.int .i64 0,.int .i64 0] 45)):=(Below.refl _ w).alloc zN _;exact⟨h4,h2,((Blk.new w _ _).alloc _).alloc _,((zL h5).alloc (by simp;omega) _)⟩
theorem CS.put{w W:World}{its:List It}(h:CS w W its)(hl:its.length<1000000){x:It}(hx:xq x)(hn:x∉its) :
  ∃W1 W2,(Instr.mapUpdate 120 (.map (some (w.heap.size+1))) (.string x.name) (.bool true)).run Tryz.prog W=.ok () W1/\(Instr.mapUpdate 121 (.map (some (w.heap.size+2))) (.agg #[.string x.name,.int .i64 x.a,.int .i64 x.b,.int .i64 x.c]) (.bool true)).run Tryz.prog W1=.ok () W2/\CS w W2 (its++[x])/\(∀k t cs,Blk W k t cs->Blk W1 k t cs/\Blk W2 k t cs):=by
 obtain⟨W1,r1,n1,g1⟩:=h.nm.put hl hx.1;have a1:qA W1 (w.heap.size+2) its:=h.al.block (g1.block _ h.al.lt (by simp));obtain⟨W2,r2,n2,g2⟩:=a1.put hl hx hn;have k1:∀k t cs,Blk W k t cs->Blk W1 k t cs:=fun k t cs hk=>hk.kept g1 (fun e=>h.nm.ne hk (Option.some.inj e).symm);have k2:∀k t cs,Blk W1 k t cs->Blk W2 k t cs:=fun k t cs hk=>hk.kept g2 (fun e=>a1.ne hk (Option.some.inj e).symm);refine⟨W1,W2,r1,r2,⟨n1.block (g2.block _ n1.lt (by simp)),n2,k2 _ _ _ (k1 _ _ _ h.f),?_⟩,fun k t cs hk=>⟨k1 k t cs hk,k2 k t cs (k1 k t cs hk)⟩⟩;have hB1:=h.B.grown g1 h.B.size (fun k hk=>by cases hk;omega);exact hB1.grown g2 hB1.size (fun k hk=>by cases hk;omega)
theorem zbk(ls:List Ln)(v:Value)(w:World)(h:RLs w v ls)(hl:ls.length<=100000)(hF:FineR w) :
  zR 32 #[v] w (.agg #[.int .i64 (xI (zk ls)).1,.int .i64 (xI (zk ls)).2]):=by
 obtain⟨la,lc,rfl⟩:∃la lc,v=.slice la ls.length lc:=by obtain⟨vs,_,h2⟩:=h;obtain⟨a,c,e,_⟩:=h2.form;exact⟨a,c,e⟩
 have HL:=zH h;have HFN:=zH hF;clear h hF;obtain⟨N,hN⟩:∃N,xI (zk ls)=N:=⟨_,rfl⟩;rw[hN];have HN:=zH hN;clear hN
 by_cases h100:100<ls.length
 ·have HNL:Hid (N=(4,-1)):=by show _=_;rw[<-HN.out];exact zhx h100
  have h100':(100:Int)<(ls.length:Int):=by omega
  have HBR:=zH (xN 4 (w.alloc (.cells #[.int .i64 0,.int .i64 0] 45)));have kf:=Blk.new w 45 #[.int .i64 0,.int .i64 0];have hbf:zB w (w.alloc (.cells #[.int .i64 0,.int .i64 0] 45)):=(Below.refl _ w).alloc zN _;clear HN h100;go_enter Tryz.func32,Tryz.ntmps32;go_wp2_with fail;refine HBR.out.mono ?_;rintro e w1 ⟨rfl,hb1⟩;have kf1:=kf.below hb1 kf.lt;have q0:_=some (Value.int .i64 0):=kf1.cell 0;have q1:_=some (Value.int .i64 0):=kf1.cell 1;have q2:=kf1.frozen 0;have q3:=kf1.frozen 1;obtain⟨⟨p0,p1⟩,p2,p3,p4⟩:=yF kf1 (zT hbf hb1) zN 4 (-1);have P2:=zH p2;have P3:=zH p3;have P4:=zH p4;clear p2 p3 p4 kf kf1 hbf hb1 HBR;go_wp2;exact bodyPost_ret (v:=.agg #[.int .i64 4,.int .i64 (-1)]) (by simp[results,Tryz.results32,go_sem,P2.out,P3.out]) rfl ⟨by rw[HNL.out],P4.out⟩
 have h100':¬(100:Int)<(ls.length:Int):=by omega
 obtain⟨R,hR⟩:∃R,zE ls 0 []=R:=⟨_,rfl⟩;have HR:=zH hR;have HC0:=zH (CS.made w);clear hR;have hmm:=@run_makeMap Tryz.prog;go_enter Tryz.func32,Tryz.ntmps32;go_wp2_with fail;clear hmm;generalize ((w.alloc (.cells #[.int .i64 0,.int .i64 0] 45)).alloc (.map #[] 0)).alloc (.map #[] 0)=W0 at *;simp only[Nat.add_assoc] at *;go_loopw [19] (fun iV wr=>∃(i:Nat) (its:List It),i<=ls.length/\iV=.int .i64 i/\its.length<=24/\zE (ls.drop i) i its=R/\CS w wr its) (fun iV _=>ls.length-(intOf iV).toNat)
 case atStart=>exact⟨0,[],Nat.zero_le _,rfl,Nat.zero_le _,by rw[List.drop_zero];exact HR.out,HC0.out⟩
 case round =>
  obtain⟨i,its,hi,rfl,hil,hga,hcs⟩:=hrel;clear HC0
  by_cases hlt:i<ls.length
  ·obtain⟨g,cap',ra,rc,e,hg,hsp,hrg,c0,c1,c2,c3,c4,c5,c6⟩:=(HL.out.below hcs.B zN).at i hlt;simp at e;obtain⟨rfl,rfl⟩:=e;rw[JN hlt] at hga;have HGA:=zH hga;clear hga hrg hsp;generalize ls.getD i default=x at *;have kx:=Blk.new wr 59 #[.int .i64 x.kind,.string x.name,.int .i64 x.a,.int .i64 x.b,.int .i64 x.c,.string x.other,.slice ra (tp x.rng).length rc];have hbx:zB wr (wr.alloc (.cells #[.int .i64 x.kind,.string x.name,.int .i64 x.a,.int .i64 x.b,.int .i64 x.c,.string x.other,.slice ra (tp x.rng).length rc] 59)):=zF.alloc zN _;have HC1:Hid (CS w (wr.alloc (.cells #[.int .i64 x.kind,.string x.name,.int .i64 x.a,.int .i64 x.b,.int .i64 x.c,.string x.other,.slice ra (tp x.rng).length rc] 59)) its):=hcs.step hbx;have HCHK:=zH (zfY x ra rc (wr.alloc (.cells #[.int .i64 x.kind,.string x.name,.int .i64 x.a,.int .i64 x.b,.int .i64 x.c,.string x.other,.slice ra (tp x.rng).length rc] 59)));have HNM:Hid (zM x=0->xq x.it):=KF;clear hcs hbx;go_upto_region 7 with fail;clear c0 c1 c2 c3 c4 c5 c6;generalize wr.alloc (.cells #[.int .i64 x.kind,.string x.name,.int .i64 x.a,.int .i64 x.b,.int .i64 x.c,.string x.other,.slice ra (tp x.rng).length rc] 59)=W1 at *;generalize wr.heap.size=bx at *;have d0:_=some (Value.int .i64 x.kind):=kx.cell 0;have d1:_=some (Value.string x.name):=kx.cell 1;have d2:_=some (Value.int .i64 x.a):=kx.cell 2;have d3:_=some (Value.int .i64 x.b):=kx.cell 3;have d4:_=some (Value.int .i64 x.c):=kx.cell 4;have d5:_=some (Value.string x.other):=kx.cell 5;have d6:_=some (Value.slice ra (tp x.rng).length rc):=kx.cell 6;go_wp2_with fail;clear d0 d1 d2 d3 d4 d5 d6;refine HCHK.out.mono ?_;rintro e w2 ⟨rfl,hb2⟩;have kx2:=kx.below hb2 kx.lt;have HC2:=zH (HC1.out.step hb2);clear HCHK hb2 kx HC1
   by_cases hz:zM x=0
   ·have HOK:=zH (HNM.out hz);rw[hz] at HGA ⊢;rw[if_neg (by simp)] at HGA;clear hz HNM
    by_cases hk:x.kind=1
    ·rw[if_pos hk] at HGA;have d0:_=some (Value.int .i64 x.kind):=kx2.cell 0;have d1:_=some (Value.string x.name):=kx2.cell 1;have d2:_=some (Value.int .i64 x.a):=kx2.cell 2;have d3:_=some (Value.int .i64 x.b):=kx2.cell 3;have d4:_=some (Value.int .i64 x.c):=kx2.cell 4;have d5:_=some (Value.string x.other):=kx2.cell 5;have d6:_=some (Value.slice ra (tp x.rng).length rc):=kx2.cell 6;rw[hk] at d0;have ki:=Blk.new w2 62 #[.string x.name,.int .i64 x.a,.int .i64 x.b,.int .i64 x.c];have hbi:zB w2 (w2.alloc (.cells #[.string x.name,.int .i64 x.a,.int .i64 x.b,.int .i64 x.c] 62)):=zF.alloc zN _;have HC3:=zH (HC2.out.step hbi);have kx3:=kx2.below hbi kx2.lt;clear hbi HC2 kx2;go_upto_region 12 with fail;clear d0 d1 d2 d3 d4 d5 d6;generalize w2.alloc (.cells #[.string x.name,.int .i64 x.a,.int .i64 x.b,.int .i64 x.c] 62)=W3 at *;generalize w2.heap.size=bi at *;have hlook:(Instr.lookup 121 (.map (some (w.heap.size+2))) (.agg #[.string x.name,.int .i64 x.a,.int .i64 x.b,.int .i64 x.c]) false).run Tryz.prog W3=.ok (.bool (decide (x.it∈its))) W3:=HC3.out.al.look (x:=x.it) HOK.out;have e0:_=some (Value.string x.name):=ki.cell 0;have e1:_=some (Value.int .i64 x.a):=ki.cell 1;have e2:_=some (Value.int .i64 x.b):=ki.cell 2;have e3:_=some (Value.int .i64 x.c):=ki.cell 3
     by_cases hm:x.it∈its
     ·rw[if_pos hm] at HGA;rw[decide_eq_true hm] at hlook;have HNE:Hid (N=(9,(i:Int))):=by show _=_;rw[<-HN.out];exact Qv h100 (HR.out.trans HGA.out.symm)
      clear hm HN HR HGA ki kx3;have q0:_=some (Value.int .i64 0):=HC3.out.f.cell 0;have q1:_=some (Value.int .i64 0):=HC3.out.f.cell 1;have q2:=HC3.out.f.frozen 0;have q3:=HC3.out.f.frozen 1;obtain⟨⟨p0,p1⟩,p2,p3,p4⟩:=yF HC3.out.f HC3.out.B zN 9 (i:Int);have P2:=zH p2;have P3:=zH p3;have P4:=zH p4;clear p2 p3 p4 HC3;go_wp2;exact bodyPost_ret (v:=.agg #[.int .i64 9,.int .i64 i]) (by simp[results,Tryz.results32,go_sem,P2.out,P3.out]) rfl ⟨by rw[HNE.out],P4.out⟩
     ·rw[if_neg hm] at HGA;rw[decide_eq_false hm] at hlook;have hd:=HC3.out.step ((Below.refl _ W3).drew);obtain⟨V1,V2,r1,r2,hcs4,hkeep⟩:=hd.put (by omega) (x:=x.it) HOK.out hm;have r1':(Instr.mapUpdate 120 (.map (some (w.heap.size+1))) (.string x.name) (.bool true)).run Tryz.prog W3.drew=.ok () V1:=r1;have r2':(Instr.mapUpdate 121 (.map (some (w.heap.size+2))) (.agg #[.string x.name,.int .i64 x.a,.int .i64 x.b,.int .i64 x.c]) (.bool true)).run Tryz.prog V1=.ok () V2:=r2;have HC4:=zH hcs4;clear r1 r2 hcs4 hd hm;have d1:_=some (Value.string x.name):=kx3.cell 1;go_upto_region 14 with fail;have kiv:=(hkeep _ _ _ (show Blk W3.drew bi 62 #[.string x.name,.int .i64 x.a,.int .i64 x.b,.int .i64 x.c] from ki)).1;have f0:_=some (Value.string x.name):=kiv.cell 0;have f1:_=some (Value.int .i64 x.a):=kiv.cell 1;have f2:_=some (Value.int .i64 x.b):=kiv.cell 2;have f3:_=some (Value.int .i64 x.c):=kiv.cell 3;clear hkeep;go_region;clear d1 e0 e1 e2 e3 f0 f1 f2 f3 r1' r2' hlook kiv ki kx3 HC3 HOK;have hn1:=fun ty=>HC4.out.nm.len ty;have hn2:=fun ty=>HC4.out.al.len ty;obtain⟨LL,hLL⟩:∃LL,(its++[x.it]).length=LL:=⟨_,rfl⟩;have hLL':LL=its.length+1:=by rw[<-hLL];simp
      rw[hLL] at hn2;generalize hNN:qD (its++[x.it])=NN at *;clear hNN hLL
      by_cases h8:8<NN
      ·rw[if_pos (Or.inl h8)] at HGA;have h8':(8:Int)<(NN:Int):=by omega
       have HNE:Hid (N=(4,(i:Int))):=by show _=_;rw[<-HN.out];exact Qv h100 (HR.out.trans HGA.out.symm)
       clear HN HR HGA h8;have q0:_=some (Value.int .i64 0):=HC4.out.f.cell 0;have q1:_=some (Value.int .i64 0):=HC4.out.f.cell 1;have q2:=HC4.out.f.frozen 0;have q3:=HC4.out.f.frozen 1;obtain⟨⟨p0,p1⟩,p2,p3,p4⟩:=yF HC4.out.f HC4.out.B zN 4 (i:Int);have P2:=zH p2;have P3:=zH p3;have P4:=zH p4;clear p2 p3 p4 HC4;go_wp2;exact bodyPost_ret (v:=.agg #[.int .i64 4,.int .i64 i]) (by simp[results,Tryz.results32,go_sem,P2.out,P3.out]) rfl ⟨by rw[HNE.out],P4.out⟩
      ·have h8':¬(8:Int)<(NN:Int):=by omega
       by_cases h24:its.length=24
       ·rw[if_pos (Or.inr h24)] at HGA;have h24':(24:Int)<(LL:Int):=by omega
        have HNE:Hid (N=(4,(i:Int))):=by show _=_;rw[<-HN.out];exact Qv h100 (HR.out.trans HGA.out.symm)
        clear HN HR HGA h8 h24;have q0:_=some (Value.int .i64 0):=HC4.out.f.cell 0;have q1:_=some (Value.int .i64 0):=HC4.out.f.cell 1;have q2:=HC4.out.f.frozen 0;have q3:=HC4.out.f.frozen 1;obtain⟨⟨p0,p1⟩,p2,p3,p4⟩:=yF HC4.out.f HC4.out.B zN 4 (i:Int);have P2:=zH p2;have P3:=zH p3;have P4:=zH p4;clear p2 p3 p4 HC4;go_wp2;exact bodyPost_ret (v:=.agg #[.int .i64 4,.int .i64 i]) (by simp[results,Tryz.results32,go_sem,P2.out,P3.out]) rfl ⟨by rw[HNE.out],P4.out⟩
       ·rw[if_neg (fun h=>h.elim h8 h24)] at HGA;have h24':¬(24:Int)<(LL:Int):=by omega
        go_wp2;go_roundw
        case rel=>exact⟨_,_,_,_,.int .i64 ((i+1:Nat):Int),⟨i+1,by omega,rfl,its++[x.it],by simp;omega,HGA.out,HC4.out⟩,rfl,rfl,rfl,rfl,by go_num⟩
        case measure=>simp[intOf];omega
    ·rw[if_neg hk] at HGA;have d0:_=some (Value.int .i64 x.kind):=kx2.cell 0;have d1:_=some (Value.string x.name):=kx2.cell 1;have d2:_=some (Value.int .i64 x.a):=kx2.cell 2;have d3:_=some (Value.int .i64 x.b):=kx2.cell 3;have d4:_=some (Value.int .i64 x.c):=kx2.cell 4;have d5:_=some (Value.string x.other):=kx2.cell 5;have d6:_=some (Value.slice ra (tp x.rng).length rc):=kx2.cell 6;clear kx2 HOK;go_wp2;go_roundw
     case rel=>exact⟨_,_,_,_,.int .i64 ((i+1:Nat):Int),_,_,_,_,_,_,_,_,_,_,_,_,_,_,_,_,_,_,_,_,_,_,_,_,_,_,_,_,_,_,_,_,_,_,_,_,_,_,_,_,⟨i+1,its,by omega,rfl,hil,HGA.out,HC2.out⟩,by repeat' (first|rfl|go_num|constructor)⟩
     case measure=>simp[intOf];omega
   ·rw[if_pos hz] at HGA;have HNE:Hid (N=(zM x,(i:Int))):=by show _=_;rw[<-HN.out];exact Qv h100 (HR.out.trans HGA.out.symm)
    clear HN HR HGA HNM kx2;generalize zM x=Q at *;have q0:_=some (Value.int .i64 0):=HC2.out.f.cell 0;have q1:_=some (Value.int .i64 0):=HC2.out.f.cell 1;have q2:=HC2.out.f.frozen 0;have q3:=HC2.out.f.frozen 1;obtain⟨⟨p0,p1⟩,p2,p3,p4⟩:=yF HC2.out.f HC2.out.B zN Q (i:Int);have P2:=zH p2;have P3:=zH p3;have P4:=zH p4;clear p2 p3 p4 HC2;go_wp2;exact bodyPost_ret (v:=.agg #[.int .i64 Q,.int .i64 i]) (by simp[results,Tryz.results32,go_sem,P2.out,P3.out]) rfl ⟨by rw[HNE.out],P4.out⟩
  ·obtain rfl:i=ls.length:=by omega
   have HOKG:Hid (zE ls 0 []=.ok its):=by show _=_;rw[HR.out,<-hga,List.drop_length,zE]
   have HCK:=zH (zen ls 0 [] its HOKG.out);have HCS:=zH hcs;clear hga hcs HR hlt hi hil;go_wp2_with fail;go_loopw [62] (fun iV wz=>∃i:Nat,i<=ls.length/\iV=.int .i64 i/\zI (ls.drop i) i its=zI ls 0 its/\CS w wz its) (fun iV _=>ls.length-(intOf iV).toNat)
   case atStart=>exact⟨0,Nat.zero_le _,rfl,by rw[List.drop_zero],HCS.out⟩
   case round =>
    obtain⟨i,hi,rfl,hms,hcs⟩:=hrel;clear HCS
    by_cases hlt:i<ls.length
    ·obtain⟨g,cap',ra,rc,e,hg,hsp,hrg,c0,c1,c2,c3,c4,c5,c6⟩:=(HL.out.below hcs.B zN).at i hlt;simp at e;obtain⟨rfl,rfl⟩:=e;rw[zaE hlt] at hms;have HMS:=zH hms;have HCX:Hid (zM (ls.getD i default)=0):=HCK.out _ (by rw[List.getD_eq_getElem?_getD,List.getElem?_eq_getElem hlt];exact List.getElem_mem hlt);clear hms hrg hsp;generalize ls.getD i default=x at *;have HOK:=zH (KF HCX.out);have kx:=Blk.new wr 59 #[.int .i64 x.kind,.string x.name,.int .i64 x.a,.int .i64 x.b,.int .i64 x.c,.string x.other,.slice ra (tp x.rng).length rc];have hbx:zB wr (wr.alloc (.cells #[.int .i64 x.kind,.string x.name,.int .i64 x.a,.int .i64 x.b,.int .i64 x.c,.string x.other,.slice ra (tp x.rng).length rc] 59)):=zF.alloc zN _;have HC1:Hid (CS w (wr.alloc (.cells #[.int .i64 x.kind,.string x.name,.int .i64 x.a,.int .i64 x.b,.int .i64 x.c,.string x.other,.slice ra (tp x.rng).length rc] 59)) its):=hcs.step hbx;clear hcs hbx HCX;go_upto_region 21 with fail;clear c0 c1 c2 c3 c4 c5 c6;generalize wr.alloc (.cells #[.int .i64 x.kind,.string x.name,.int .i64 x.a,.int .i64 x.b,.int .i64 x.c,.string x.other,.slice ra (tp x.rng).length rc] 59)=W1 at *;generalize wr.heap.size=bx at *;have hlook:(Instr.lookup 121 (.map (some (w.heap.size+2))) (.agg #[.string x.name,.int .i64 x.a,.int .i64 x.b,.int .i64 x.c]) false).run Tryz.prog W1=.ok (.bool (decide (x.it∈its))) W1:=HC1.out.al.look (x:=x.it) HOK.out;have d0:_=some (Value.int .i64 x.kind):=kx.cell 0;have d1:_=some (Value.string x.name):=kx.cell 1;have d2:_=some (Value.int .i64 x.a):=kx.cell 2;have d3:_=some (Value.int .i64 x.b):=kx.cell 3;have d4:_=some (Value.int .i64 x.c):=kx.cell 4;have d5:_=some (Value.string x.other):=kx.cell 5;have d6:_=some (Value.slice ra (tp x.rng).length rc):=kx.cell 6;clear kx HOK
     by_cases hpr:x.pair
     ·have hk23:x.kind=2\/x.kind=3:=hpr
      by_cases hm:x.it∈its
      ·rw[decide_eq_true hm] at hlook;have HM:Hid (zI (ls.drop (i+1)) (i+1) its=zI ls 0 its):=by show _=_;rw[<-HMS.out,if_neg (fun h=>h.2 hm)]
       clear HMS hm hpr;rcases hk23 with hk|hk
       ·rw[hk] at d0;go_wp2;go_roundw
        case rel=>exact⟨i+1,by omega,by go_num,HM.out,HC1.out⟩
        case measure=>simp[intOf];omega
       ·rw[hk] at d0;go_wp2;go_roundw
        case rel=>exact⟨i+1,by omega,by go_num,HM.out,HC1.out⟩
        case measure=>simp[intOf];omega
      ·rw[decide_eq_false hm] at hlook;have HM:Hid (zI ls 0 its=some i):=by show _=_;rw[<-HMS.out,if_pos ⟨hpr,hm⟩]
       have HNE:Hid (N=(7,(i:Int))):=by show _=_;rw[<-HN.out];exact zcq h100 HOKG.out HM.out
       clear HMS hm hpr HM HN HOKG HCK;rcases hk23 with hk|hk
       ·rw[hk] at d0;have q0:_=some (Value.int .i64 0):=HC1.out.f.cell 0;have q1:_=some (Value.int .i64 0):=HC1.out.f.cell 1;have q2:=HC1.out.f.frozen 0;have q3:=HC1.out.f.frozen 1;obtain⟨⟨p0,p1⟩,p2,p3,p4⟩:=yF HC1.out.f HC1.out.B zN 7 (i:Int);have P2:=zH p2;have P3:=zH p3;have P4:=zH p4;clear p2 p3 p4 HC1;go_wp2;exact bodyPost_ret (v:=.agg #[.int .i64 7,.int .i64 i]) (by simp[results,Tryz.results32,go_sem,P2.out,P3.out]) rfl ⟨by rw[HNE.out],P4.out⟩
       ·rw[hk] at d0;have q0:_=some (Value.int .i64 0):=HC1.out.f.cell 0;have q1:_=some (Value.int .i64 0):=HC1.out.f.cell 1;have q2:=HC1.out.f.frozen 0;have q3:=HC1.out.f.frozen 1;obtain⟨⟨p0,p1⟩,p2,p3,p4⟩:=yF HC1.out.f HC1.out.B zN 7 (i:Int);have P2:=zH p2;have P3:=zH p3;have P4:=zH p4;clear p2 p3 p4 HC1;go_wp2;exact bodyPost_ret (v:=.agg #[.int .i64 7,.int .i64 i]) (by simp[results,Tryz.results32,go_sem,P2.out,P3.out]) rfl ⟨by rw[HNE.out],P4.out⟩
     ·have HM:Hid (zI (ls.drop (i+1)) (i+1) its=zI ls 0 its):=by show _=_;rw[<-HMS.out,if_neg (fun h=>hpr h.1)]
      have hk2:¬x.kind=2:=fun h=>hpr (Or.inl h);have hk3:¬x.kind=3:=fun h=>hpr (Or.inr h);have hk2':(x.kind==2)=false:=by rw[beq_eq_false_iff_ne];exact hk2
      have hk3':(x.kind==3)=false:=by rw[beq_eq_false_iff_ne];exact hk3
      clear HMS hpr hk2 hk3 hlook;go_wp2;go_roundw
      case rel=>exact⟨i+1,by omega,by go_num,HM.out,HC1.out⟩
      case measure=>simp[intOf];omega
    ·obtain rfl:i=ls.length:=by omega
     have HM:Hid (zI ls 0 its=none):=by show _=_;rw[<-hms,List.drop_length,zI]
     have HNE:Hid (N=(0,-1)):=by show _=_;rw[<-HN.out];exact zdF h100 HOKG.out HM.out
     have HC1:=zH hcs;have hf1:=HFN.out.below hcs.B;have g0:=hf1.c0;have g1:=hf1.c1;clear hms hcs HM HN HOKG HCK hf1 hlt hi;have q0:_=some (Value.int .i64 0):=HC1.out.f.cell 0;have q1:_=some (Value.int .i64 0):=HC1.out.f.cell 1;have q2:=HC1.out.f.frozen 0;have q3:=HC1.out.f.frozen 1;obtain⟨⟨p0,p1⟩,p2,p3,p4⟩:=yF HC1.out.f HC1.out.B zN 0 (-1);have P2:=zH p2;have P3:=zH p3;have P4:=zH p4;clear p2 p3 p4 HC1;go_wp2;exact bodyPost_ret (v:=.agg #[.int .i64 0,.int .i64 (-1)]) (by simp[results,Tryz.results32,go_sem,P2.out,P3.out]) rfl ⟨by rw[HNE.out],P4.out⟩
end
end Go.Proofs.YtlamemjfaogjmaaGreatDoor

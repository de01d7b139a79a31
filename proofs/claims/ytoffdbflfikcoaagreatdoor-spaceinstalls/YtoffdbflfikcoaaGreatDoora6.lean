import Derived.Test.YtoffdbflfikcoaaGreatDoora5
import Derived.Shelf.Strconv.Itoa4
import Derived.Shelf.Strconv.ParseIntPublic10
import Derived.Shelf.Strings.Count
import Derived.Shelf.Strings.Cut
import Derived.Shelf.Strings.SlTrimAscii
open Go.Proofs.Tryz
open Go.Proofs.YtoffdbflfikcoaaGreatDoor
set_option maxHeartbeats 2000000
set_option maxRecDepth 100000
namespace Go.Proofs.YtoffdbflfikcoaaGreatDoor.Bd
open Go.RowKit
section
open Go.Maps
def yD(B s b:Nat)(O:Nat->Prop)(vars:Nat)(room:Int)(r:List Nd × Int)(w:World)(e:Ending)(w':World):Prop :=
 e=.returned (.tuple #[r.2,.nilIface])/\∃O',zt B w' s b O' vars room r.1/\zP O O' w w'
structure QM(B:Nat)(w:World)(vars:Nat)(room:Int)(ns:List Nd):Prop where
 r:room<=4000
 l:((cnt ns+2^vars:Nat):Int)<=room+1
 n:ns.length+2^vars<=90000
 v:vars<=12
 hB:B<=w.heap.size
section
variable {B s b:Nat} {O:Nat->Prop} {F:FuncId} {op:Bool} {vars:Nat} {room:Int} {ns:List Nd} {w w':World}
theorem QM.new(h:QM B w vars room ns)(hb:w.heap.size<=w'.heap.size):QM B w' vars room ns:=⟨h.r,h.l,h.n,h.v,zf1 h.hB hb⟩
theorem zpt{vars:Nat}(h:vars<=12):2^vars<=4096:=zrt (by omega) h
theorem zkj(w:World)(k:Nd)(hk:k.Ok)(t:TypeId):Zp (w.alloc (.cells #[k.v,k.l,k.h] t)) w.heap.size [k.v,k.l,k.h]:=by
 obtain⟨x0,x1,x2,-⟩:=xA w (.int .i64 k.v) (.int .i64 k.l) (.int .i64 k.h) t;refine⟨by simp,fun i hi=>?_,fun z hz=>?_⟩
 ·simp at hi;obtain rfl|rfl|rfl:i=0\/i=1\/i=2:=by omega
  ·exact x0
  ·exact x1
  ·exact x2
 ·simp at hz;rcases hz with rfl|rfl|rfl
  ·exact hk.1
  ·exact hk.2.1
  ·exact hk.2.2
theorem zpE{O':Nat->Prop}{dm:Nat}{w1:World}(hb:zB w w1)(hd:w.heap.size<=dm)(h:MM O O' dm w1 w'):zP O O' w w' :=
 ⟨(zc.of_below hb _).andThen h.kept (fun i hi j=>hi.elim id (fun e=>by omega)),fun k hk=>by
  rcases h.own k hk with h1|h1
  ·exact .inl h1
  ·exact .inr (zf1 hb.size h1),fun k hk=>by
  rcases h.map k hk with h1|⟨h1,h2⟩
  ·exact .inl h1
  ·exact .inr ⟨h1,fun c=>h2 (c.below hb)⟩⟩
theorem zeP(hF:Y9 F op)(h:zt B w s b O vars room ns)(hg:zG vars ns)(hR:QM B w vars room ns)(k:Nd)(h3:yX ns k) :
  zC 153 #[.pointer (some s),.func (.func F) #[] #[],k.val] w (yD B s b O vars room (xI op ns k) w):=by
 have Y:=zr1 (n:=vars);have Z:=hR.r;have a3:=hR.l;have a4:=hR.n;have a6:=zpt hR.v;have C:=zgf h3 (by omega);have hp:=Kb (vars:=vars) hg.ranked k;have a2:=(QK hg.ranked k).1;have q:=zgb (cp:=3) (h.new (below_new w (.cells #[k.v,k.l,k.h] 264))) (by omega) w.heap.size [k.v,k.l,k.h] (zkj w k C _) (by simp) (fun x hx=>by
  simp at hx;rcases hx with rfl|rfl|rfl
  ·exact h3.a
  ·exact h3.b
  ·exact h3.c)
 rw[show [k.v,k.l,k.h].length=3 from rfl] at q;have HP:=zH q;have K:Hid (∀W,zB w W->zC 203 #[.pointer (some s),.func (.func F) #[] #[]] W fun e w'=>∃wk dm,e=.returned (.pointer (some ⟨wk,0,none⟩))/\W.heap.size<=dm/\WS B w' s b wk dm O F op vars room ns []/\zB W w'):=fun W hW=>by
  have hs:=hW.size;have a5:=h.slt;refine(zpx s F W B (zf1 hR.hB hs)).mono fun e w' ⟨he,hwk,hb⟩=>⟨_,_,he,zri _,?_,hb⟩;have U:=(h.new hW).new hb;exact⟨U,hwk,hg,JS op ns,fun ho=>by have:=(h.own _ ho).2;omega,fun ho=>by have:=(h.own _ ho).2;omega,by omega,zf1 hR.hB (zf1 hs hb.size)⟩
 have u:Hid (∀wk dm W,WS B W s b wk dm O F op vars room ns []->zC 204 #[.pointer (some ⟨wk,0,none⟩),k.val] W fun e w'=>e=.returned (.tuple #[.int .i64 (zu 24 op ns [] k).2.2,.nilIface])/\∃O',WS B w' s b wk dm O' F op vars room (zu 24 op ns [] k).1 (zu 24 op ns [] k).2.1/\MM O O' dm W w'):=fun wk dm W hW =>
  zeX Z hF 24 ns [] k O W hW h3 (by omega) (by omega) (by omega) (by simp;omega)
 have hb:=below_new w (.cells #[k.v,k.l,k.h] 264);obtain⟨x0,x1,x2,-⟩:=xA w (.int .i64 k.v) (.int .i64 k.l) (.int .i64 k.h) 264;have bl:w.heap.size<(w.alloc (.cells #[k.v,k.l,k.h] 264)).heap.size:=by simp
 unfold xI;generalize zu 24 op ns [] k=r at *;unfold Nd.val at u ⊢;have OO:Hid (∀j,O j->j<w.heap.size):=fun j ho=>(h.own j ho).2;clear q h hg hR h3 C hp hF;go_enter func153,ntmps153;go_wp2_with fail;refine HP.out.mono ?_;rintro e w1 ⟨rfl,rfl⟩;clear HP;have HB:=zH hb;clear hb;go_wp2_with fail;generalize (w.alloc (.cells #[k.v,k.l,k.h] 264))=W1 at *;have f0:W1.drew.cell? w.heap.size=some (.int .i64 k.v):=x0;have f1:W1.drew.cell? ⟨w.heap.size,1,none⟩=some (.int .i64 k.l):=x1;have f2:W1.drew.cell? ⟨w.heap.size,2,none⟩=some (.int .i64 k.h):=x2;have bl':w.heap.size<W1.drew.heap.size:=bl;have M:Hid (∀w2,Below W1.drew.heap.size W1.drew w2->zB w w2):=fun w2 o=>HB.out.drew.trans (o.mono HB.out.size);have R:Hid (∀w2 w3 O' dm,Below W1.drew.heap.size W1.drew w2->W1.drew.heap.size<=dm->MM O O' dm w2 w3->w3.cell? w.heap.size=some (.int .i64 k.v)/\w3.cell? ⟨w.heap.size,1,none⟩=some (.int .i64 k.l)/\w3.cell? ⟨w.heap.size,2,none⟩=some (.int .i64 k.h)):=fun w2 w3 O' dm o y mm=>by
  have h2:w.heap.size<w2.heap.size:=zc6 bl' o.size;have ho:¬O w.heap.size:=fun h=>by have:=OO.out _ h;omega
  have hd:w.heap.size≠dm:=by omega
  exact⟨(mm.cell (a:=w) h2 ho hd).trans ((o.cell (p:=w) bl').trans f0),(mm.cell (a:=⟨w.heap.size,1,none⟩) h2 ho hd).trans ((o.cell (p:=⟨w.heap.size,1,none⟩) bl').trans f1),(mm.cell (a:=⟨w.heap.size,2,none⟩) h2 ho hd).trans ((o.cell (p:=⟨w.heap.size,2,none⟩) bl').trans f2)⟩
 go_cut [6,7] (fun a c wx=>a=.int .i64 r.2.2/\c=.nilIface/\∃O',zt B wx s b O' vars room r.1/\zP O O' w wx)
 case first =>
  go_region_held3 (fun X=>X.cell? w.heap.size=some (.int .i64 k.v)/\X.cell? ⟨w.heap.size,1,none⟩=some (.int .i64 k.l)/\X.cell? ⟨w.heap.size,2,none⟩=some (.int .i64 k.h)) (first|exact⟨f0,f1,f2⟩|exact⟨(o.cell (p:=w) bl').trans f0,(o.cell (p:=⟨w.heap.size,1,none⟩) bl').trans f1,(o.cell (p:=⟨w.heap.size,2,none⟩) bl').trans f2⟩|exact SK)
   (first
    |(go_at_call 203;with_reducible refine(K.out _ HB.out.drew).mono ?_;rintro e w2 ⟨wk,dm,rfl,y,a1,o⟩)
    | (go_at_call 204;with_reducible refine (u.out _ _ _ a1).mono ?_;rintro e w3 ⟨rfl,O',a0,J⟩;have V:=M.out _ o;have SK:=R.out _ _ _ _ o y J))
  all_goals
   go_wp2_with fail;go_meet
   case rel=>exact⟨rfl,rfl,O',a0.space,zpE V (by omega) J⟩
 case rest =>obtain⟨rfl,rfl,hO⟩:=hcut;go_wp2;go_ret2;exact⟨rfl,hO⟩
theorem zh8(x y:Int)(w:World):zR 155 #[x,y] w (.agg #[x,y,(0:Int)]):=by
 have hb:=below_new w (.cells #[x,y,(0:Int)] 264);go_enter func155,ntmps155;go_wp2;exact zc4 (v:=.agg #[x,y,(0:Int)]) (by simp[results,results155,go_sem]) rfl ⟨rfl,hb⟩
theorem zmd(x y:Int)(w:World):zR 202 #[x,y] w (.agg #[x,(1:Int),y]):=by
 have hb:=below_new w (.cells #[x,(1:Int),y] 264);go_enter func202,ntmps202;go_wp2;exact zc4 (v:=.agg #[x,(1:Int),y]) (by simp[results,results202,go_sem]) rfl ⟨rfl,hb⟩
theorem yD.later{r:List Nd × Int}{w1:World}{e:Ending}(hb:zB w w1)(h:yD B s b O vars room r w1 e w'):yD B s b O vars room r w e w':=by
 obtain⟨he,O',hS,hM⟩:=h;exact⟨he,O',hS,(zP.of_below O hb).trans hM⟩
theorem zj1(h:zt B w s b O vars room ns)(hg:zG vars ns)(hR:QM B w vars room ns)(x y:Int)(h1:zh ns x=true)(h2:zh ns y=true) :
  zC 101 #[.pointer (some s),x,y] w (yD B s b O vars room (xI true ns ⟨x,y,0⟩) w):=by
 have HC:Hid (∀W,zB w W->zC 153 #[.pointer (some s),.func (.func 154) #[] #[],.agg #[x,y,(0:Int)]] W (yD B s b O vars room (xI true ns ⟨x,y,0⟩) W)):=fun W hW =>
  zeP zfM (h.new hW) hg (hR.new hW.size) ⟨x,y,0⟩ ⟨h1,h2,Qd ns⟩
 generalize xI true ns ⟨x,y,0⟩=r at *;clear h hg hR h1 h2;go_enter func101,ntmps101;go_wp2_with fail;refine(zh8 x y w).mono ?_;rintro e w1 ⟨rfl,j⟩;have HC':=zH (HC.out w1 j);clear HC;go_wp2_with fail;refine HC'.out.mono ?_;rintro e w' ⟨rfl,hO⟩;go_wp2;go_ret2;exact yD.later j ⟨rfl,hO⟩
theorem zij(h:zt B w s b O vars room ns)(hg:zG vars ns)(hR:QM B w vars room ns)(x y:Int)(h1:zh ns x=true)(h2:zh ns y=true) :
  zC 152 #[.pointer (some s),x,y] w (yD B s b O vars room (xI true ns ⟨x,1,y⟩) w):=by
 have HC:Hid (∀W,zB w W->zC 153 #[.pointer (some s),.func (.func 154) #[] #[],.agg #[x,(1:Int),y]] W (yD B s b O vars room (xI true ns ⟨x,1,y⟩) W)):=fun W hW =>
  zeP zfM (h.new hW) hg (hR.new hW.size) ⟨x,1,y⟩ ⟨h1,xT ns,h2⟩
 generalize xI true ns ⟨x,1,y⟩=r at *;clear h hg hR h1 h2;go_enter func152,ntmps152;go_wp2_with fail;refine(zmd x y w).mono ?_;rintro e w1 ⟨rfl,j⟩;have HC':=zH (HC.out w1 j);clear HC;go_wp2_with fail;refine HC'.out.mono ?_;rintro e w' ⟨rfl,hO⟩;go_wp2;go_ret2;exact yD.later j ⟨rfl,hO⟩
theorem zmY(h:zt B w s b O vars room ns)(hR:QM B w vars room ns)(v:Int)(is:Bool)(hv0:0<=v)(hv:v<(vars:Int)) :
  zC 151 #[.pointer (some s),v,is] w (yD B s b O vars room (xH ns v is) w):=by
 have h1:1<=vars:=by omega
 have h2:2<=2^vars:=by
  obtain⟨q,rfl⟩:∃q,vars=q+1:=⟨vars-1,by omega⟩;have:=zr1 (n:=q);rw[zsU];omega
 have o:=hR.r;have p:=hR.l;have u:=hR.n;have j:=hR.v;have HV:=zH (zpP h v hv0 hv);unfold xH;cases is with
 |true =>rw[zc3 rfl];have HN:=zH (zcd h (by omega) (by omega) hR.hB v 0 1 hv0 (by omega) (Qd ns) (xT ns) (by rw[Y7];omega) (by rw[Yc];omega));generalize yn ns v 0 1=r at *;clear h hR;go_enter func151,ntmps151;go_wp2_with fail;refine HV.out.mono ?_;rintro e w1 ⟨rfl,rfl⟩;go_wp2_with fail;refine HN.out.mono ?_;rintro e w' ⟨rfl,hO⟩;go_wp2;go_ret2;exact⟨rfl,hO⟩
 |false =>rw[zc2 (by simp)];have HN:=zH (zcd h (by omega) (by omega) hR.hB v 1 0 hv0 (by omega) (xT ns) (Qd ns) (by rw[Yc];omega) (by rw[Y7];omega));generalize yn ns v 1 0=r at *;clear h hR;go_enter func151,ntmps151;go_wp2_with fail;refine HV.out.mono ?_;rintro e w1 ⟨rfl,rfl⟩;go_wp2_with fail;refine HN.out.mono ?_;rintro e w' ⟨rfl,hO⟩;go_wp2;go_ret2;exact⟨rfl,hO⟩
end
end
section
open Go.Maps
theorem Ya:Keyed prog 3:=int_keyed zrn
theorem YD{x:Int}(h:I64 x):keyOf prog 3 (.int .i64 x)=some (.int .i64 x):=keyOf_int_mk zrn (KS h)
theorem zce{ns:List Nd}{x:Int}(e:za ns x≠24):zo ns x=nd ns (pl x):=by unfold zo;rw[zc2 e];rfl
theorem zhP(w:World)(x:Int)(hx:I64 x):Zp (w.alloc (.cells #[x] 3)) w.heap.size [x] :=
 ⟨by simp,fun i hi=>by
  obtain rfl:i=0:=by simp at hi;omega
  simp,fun z hz=>by rw [zra] at hz;subst hz;exact hx⟩
end
section
open Go.Maps
section
variable {B s b:Nat} {O:Nat->Prop} {vars:Nat} {room:Int} {ns:List Nd} {w w':World}
theorem zn3(vars:Nat)(hv:vars<=24)(room:Int)(h0:0<=room)(h1:room<=4000)(w:World)(B:Nat)(hB:B<=w.heap.size) :
  zC 20 #[vars,room] w fun e w'=>∃s b O,e=.returned (.tuple #[.pointer (some ⟨s,0,none⟩),.nilIface])/\zt B w' s b O vars room []/\w.heap.size<=s/\(∀k,O k->w.heap.size<=k)/\zB w w':=by
 have HN:=zH (zar room h0 h1 w w.heap.size zN);go_enter func20,ntmps20;go_wp2_with fail;refine HN.out.mono ?_;rintro e w1 ⟨rfl,u,y⟩;have hs:=y.size;have hO:=(fun k (h:Own (w.heap.size + 1) w.heap.size (.slice none 0 0) k)=>(show w.heap.size<=k/\k<w1.heap.size from by
  obtain⟨D,hD,-⟩:=u.hmap;have M:=hD.lt;have R:=u.lt;rcases h with h|h|h
  ·omega
  ·omega
  ·simp [Value.ownBlock] at h))
 have C:=y.alloc hs (.cells #[.pointer (some ⟨w.heap.size+1,0,none⟩),vars] 74);have o:=u.kept (zc.alloc (fun _=>False) w1 (.cells #[.pointer (some ⟨w.heap.size+1,0,none⟩),vars] 74)) (fun _ _ h=>h);have q:zt B (w1.alloc (.cells #[.pointer (some ⟨w.heap.size+1,0,none⟩),vars] 74)) w1.heap.size (w.heap.size+1) (Own (w.heap.size+1) w.heap.size (.slice none 0 0)) vars room []:=by
  have K:zM B (w1.alloc (.cells #[.pointer (some ⟨w.heap.size+1,0,none⟩),vars] 74)) (w.heap.size+1) w.heap.size (.slice none 0 0) [] [] room 2 :=
   ⟨o.lt,o.croom,o.cnodes,o.cmap,o.cnext,o.froz,ownsRow_base o.row hB,o.hmap,o.d1,o.d2,o.d3,by omega,hB⟩
  refine⟨⟨_,_,[],2,K,⟨fun p h=>by simp at h,fun j h=>by simp at h,by simp,fun j h=>by simp at h⟩,⟨0,rfl,by simp,fun j h=>by omega⟩,fun _ h=>h⟩,fun k hk=>⟨by have:=(hO k hk).1;omega,by have:=(hO k hk).2;simp;omega⟩,fun ho=>by have:=(hO _ ho).2;omega,by simp,by simp,by simp⟩
 have HF:=zH q;have J:=zH C;have HO:=zH hO;clear HN u o q C hO;go_wp2;go_ret2;exact⟨_,_,_,rfl,HF.out,hs,fun k hk=>(HO.out k hk).1,J.out⟩
theorem Ja(h:zt B w s b O vars room ns):zC 7 #[.pointer (some s)] w fun e w'=>e=.returned (.int .i64 vars)/\w=w':=by
 have c1:=h.c1;clear h;go_enter func7,ntmps7;go_wp2;go_ret;exact⟨rfl,rfl⟩
theorem znH(h:zt B w s b O vars room ns)(hr:zZ ns)(hl:ns.length<=90000)(hB:B<=w.heap.size)(bf:Nat){cp:Nat}(fs:List Int)(hF:Zp w bf fs)(hfl:fs.length<=1000) :
  zC 57 #[.pointer (some s),.slice (some bf) fs.length cp] w fun e w'=>∃n:Int,e=.returned (.int .i64 n)/\∃O',zt B w' s b O' vars room (qw ns (qs ns fs))/\zP O O' w w':=by
 have c0:=h.c0;have HC:=zH (zpv (cp:=cp) h hr hl hB bf fs hF hfl);generalize fs.length=n at *;clear h hF hr;go_enter func57,ntmps57;go_wp2_with fail;refine HC.out.mono ?_;rintro e w1 ⟨n,rfl,hO⟩;go_wp2;go_ret;exact⟨n,rfl,hO⟩
end
end
section
open Go.Maps
section
variable {B s b:Nat} {O:Nat->Prop} {vars:Nat} {room:Int} {ns:List Nd} {w w':World}
theorem zig(h:zt B w s b O vars room ns):zC 99 #[.pointer (some b)] w fun e w'=>e=.returned (.int .i64 ((QP ns).length:Int))/\w=w':=by
 obtain⟨bm,v,L,next,hA,j,-,hO⟩:=h.arena;rw[<-KN j];exact KC hA
end
end
end Go.Proofs.YtoffdbflfikcoaaGreatDoor.Bd
namespace Go.Proofs.YtoffdbflfikcoaaGreatDoor
section
open Go.RowKit
theorem zhy(F:Nat)(cb:Array Value)(p:List Int->Bool)(xs:List (List Int))(a:Option Addr)(cap:Nat)(w:World)(hm:xs.length<=9223372036854775807)
  (hent:∀q w,(callFunc F q).run prog w=.ok (.enter F q) w) (hI:xX w a xs)
  (hf:∀W i (a':Option Addr) (cap':Nat),zB w W->i<xs.length->cap'<=9223372036854775807->(xs.getD i []).length<=cap'->qO W a' (xs.getD i [])->zR F (#[.slice a' (xs.getD i []).length cap']++cb) W (.bool (p (xs.getD i [])))) :
  zR 95 #[.slice a xs.length cap,.func (.func F) #[] cb] w (.int .i64 (xt p xs)):=by
 have HF:=zH hf;have HI:=zH hI;clear hf hI;go_enter func95,ntmps95;go_wp2_with fail;go_loopw [8] (fun kV wr=>∃k:Nat,k<=xs.length/\kV=.int .i64 k/\(∀j,j<k->p (xs.getD j [])=false)/\zB w wr) (fun kV _=>xs.length-(intOf kV).toNat)
 case atStart=>exact⟨0,zf6 _,rfl,fun j h=>by omega,zf0 _ _⟩
 case round =>
  obtain⟨k,hk,rfl,h1,C⟩:=hrel;have H1:=zH h1;have o:=zH C;clear h1 C
  by_cases hlt:k<xs.length
  ·obtain⟨ad,a',cap',rfl,hl,hc,g1,g2,g3⟩:=HI.out.below o.out k hlt;have HC:=zH (HF.out wr k a' cap' o.out hlt g2 g1 g3);clear g3 g1 g2;cases hp:p (xs.getD k []) with
   |true =>rw[hp] at HC;have HP:=zH hp;clear hp;generalize hx:xs.getD k []=x at *;have HX:=zH hx;clear hx;go_wp2_with fail;refine HC.out.mono ?_;rintro e w1 ⟨rfl,u⟩;have y:Hid (zB w w1):=zT o.out u;clear u HC;go_wp2;go_ret;exact⟨by rw[zdi H1.out hlt (by rw[HX.out];exact HP.out)];rfl,y.out⟩
   |false =>
    rw[hp] at HC;have HP:=zH hp;clear hp;generalize hx:xs.getD k []=x at *;have HX:=zH hx;clear hx;go_wp2_with fail;refine HC.out.mono ?_;rintro e w1 ⟨rfl,u⟩;have y:Hid (zB w w1):=zT o.out u;clear u HC;go_wp2;go_roundw
    case rel=>exact ⟨k + 1,hlt,by go_num,fun j hj=>(by
     rcases zse.1 hj with e|e
     ·exact H1.out j e
     ·rw [e,HX.out];exact HP.out),y.out⟩
    case measure=>simp[intOf];omega
  ·obtain rfl:k=xs.length:=by omega
   go_wp2;go_ret;exact⟨by rw[zgl H1.out];rfl,o.out⟩
theorem zoU(F:Nat)(cb:Array Value)(p:List Int->Bool)(xs:List (List Int))(a:Option Addr)(cap:Nat)(w:World)(hm:xs.length<=9223372036854775807)
  (hent:∀j w,(callFunc F j).run prog w=.ok (.enter F j) w) (hI:xX w a xs)
  (hf:∀W i (a':Option Addr) (cap':Nat),zB w W->i<xs.length->cap'<=9223372036854775807->(xs.getD i []).length<=cap'->qO W a' (xs.getD i [])->zR F (#[.slice a' (xs.getD i []).length cap']++cb) W (.bool (p (xs.getD i [])))) :
  zR 52 #[.slice a xs.length cap,.func (.func F) #[] cb] w (.bool (xs.any p)):=by
 have H:=zH (zhy F cb p xs a cap w hm hent hI hf);clear hf hI hent;rw[<-zeK];generalize xt p xs=i at *;go_enter func52,ntmps52;go_wp2_with fail;refine H.out.mono ?_;rintro e w1 ⟨rfl,o⟩;have q:=zH o;clear o H;go_wp2;go_ret;exact⟨by first|rfl|simp,q.out⟩
def xG(vals:Nat)(l:List (List Int)):Bool:=l.all (Qb vals)
theorem zoT(vals:Nat)(l:List (List Int)):xG vals l=!(l.any fun c=>!Qb vals c):=by
 unfold xG;rw[List.all_eq_not_any_not]
end
end Go.Proofs.YtoffdbflfikcoaaGreatDoor
namespace Go.Proofs.YtoffdbflfikcoaaGreatDoor.Bd
open Go.RowKit Go.Maps Go.Deep
theorem zeg(x:Int)(hx:yt 24 x=true)(w:World):zC 98 #[x] w fun e w'=>e=.returned (.int .i64 (zU x))/\w=w':=by
 have h0:=xJ.1 hx;have hm:max x (-x)-1=(zU x:Int):=by unfold zU;omega
 have h1:-9223372036854775808<=max x (-x)-1:=by omega
 have h2:max x (-x)-1<=9223372036854775807:=by omega
 have h3:-9223372036854775808<=-x:=by omega
 have h4:-x<=9223372036854775807:=by omega
 clear hx;go_enter func98,ntmps98;go_wp2;go_ret;refine⟨?_,rfl⟩;rw[<-hm]
 first|rfl|(congr 2;omega)|go_num
theorem zn4(x:Int)(vars:Nat)(h24:vars<=24)(hx:yt vars x=true)(b:Nat)(w:World)(hc:w.cell? b=some (.int .i64 vars)) :
  zR 97 #[x,.pointer (some b)] w (.bool false):=by
 have HV:=zH (zeg x (Yd (by omega) hx) w);have hv:=YY hx;clear hx;generalize zU x=v at *;have h1:¬(v:Int)<0:=by omega
 have h2:¬(vars:Int)<=(v:Int):=by omega
 go_enter func97,ntmps97;go_wp2_with fail;refine HV.out.mono ?_;rintro e w1 ⟨rfl,rfl⟩;go_wp2;go_ret;exact⟨by simp;exact hv,zf0 _ _⟩
theorem zju:∀j w,(callFunc 97 j).run prog w=.ok (.enter 97 j) w:=by intro j w;kernel_rfl
theorem zg0:∀j w,(callFunc 53 j).run prog w=.ok (.enter 53 j) w:=by intro j w;kernel_rfl
theorem zm5(c:List Int)(vars:Nat)(h24:vars<=24)(hl:qk vars c)(a:Option Addr)(cap:Nat)(w:World)(hI:qO w a c)(hm:c.length<=9223372036854775807) :
  zR 54 #[.slice a c.length cap,vars] w (.bool true):=by
 have hb:=Go.Proofs.YtoffdbflfikcoaaGreatDoor.below_new w (.cells #[vars] 3);have HC:=zH (zoH 97 #[.pointer (some w)] (fun _=>false) c a cap (w.alloc (.cells #[vars] 3)) hm zju (hI.below hb) (fun W i hW hi=>zn4 (c.getD i 0) vars h24 (hl _ (Zk hi)) w.heap.size W ((hW.cell (p:=w) (by simp)).trans (by simp))));have HB:=zH hb;have hf:(c.any fun _=>false)=false:=by simp
 rw[hf] at HC;clear hb hI hl hf;go_enter func54,ntmps54;go_wp2_with fail;refine HC.out.mono ?_;rintro e w1 ⟨rfl,j⟩;have o:Hid (zB w w1):=zT HB.out j;clear j HC;go_wp2;go_ret;exact⟨by first|rfl|simp,o.out⟩
section
variable {B s b:Nat} {O:Nat->Prop} {vars:Nat} {room:Int} {ns:List Nd} {w:World}
theorem zk7(hS:zt B w s b O vars room ns)(h24:vars<=24)(c:List Int)(hl:qk vars c)(a:Option Addr)(cap:Nat)(hI:qO w a c)(hm:c.length<=9223372036854775807)(bx:Nat)(hc:w.cell? bx=some (.pointer (some s))) :
  zR 53 #[.slice a c.length cap,.pointer (some bx)] w (.bool false):=by
 have HV:=zH (Ja hS);have HW:=zH (zm5 c vars h24 hl a cap w hI hm);clear hS hI hl;go_enter func53,ntmps53;go_wp2_with fail;refine HV.out.mono ?_;rintro e w1 ⟨rfl,rfl⟩;clear HV;go_wp2_with fail;refine HW.out.mono ?_;rintro e w1 ⟨rfl,j⟩;have o:=zH j;clear HW j;go_wp2;go_ret;exact⟨by first|rfl|simp,o.out⟩
theorem zeC(hS:zt B w s b O vars room ns):zC 51 #[.pointer (some s)] w fun e w'=>e=.returned false/\w=w':=by
 have c0:=hS.c0;clear hS;go_enter func51,ntmps51;go_wp2;go_ret;exact⟨by first|rfl|simp,rfl⟩
theorem zpO(hS:zt B w s b O vars room ns)(h0:cnt ns=0):zC 55 #[.pointer (some s)] w fun e w'=>e=.returned (.slice none 0 0)/\w=w':=by
 have HL:=zig hS;rw[zgB,h0] at HL;have HL:=zH HL;have c0:=hS.c0;clear hS h0;go_enter func55,ntmps55;go_wp2_with fail;go_loopw [3,4] (fun o _ wr=>o=.slice none 0 0/\wr=w) (fun _ _ _=>0)
 case atStart=>exact⟨rfl,rfl⟩
 case round =>obtain⟨rfl,rfl⟩:=hrel;go_wp2_with fail;refine HL.out.mono ?_;rintro e w1 ⟨rfl,rfl⟩;go_wp2;go_ret;exact⟨rfl,rfl⟩
end
end Go.Proofs.YtoffdbflfikcoaaGreatDoor.Bd
namespace Go.Proofs
open Go.Shelf
def Tryz.lays161_ren:Go.Shelf.Ren:=⟨fun|161=>176|231=>215|227=>216|233=>217|235=>218|228=>241|197=>170|151=>242|260=>208|152=>256|137=>119|119=>258|224=>210|225=>209|217=>173|266=>212|n=>n,fun|9=>9|4=>4|3=>3|5=>5|117=>321|116=>320|0=>0|124=>324|105=>278|21=>21|119=>344|46=>48|139=>347|138=>346|n=>n,fun|3=>8|4=>9|n=>n⟩
theorem Tryz.lays161:Go.Proofs.Lays.n161 prog Tryz.lays161_ren:=by constructor<;>intros<;>kernel_rfl
def Tryz.lays106_ren:Go.Shelf.Ren:=⟨fun|106=>141|213=>194|265=>232|n=>n,fun|9=>9|3=>3|n=>n,fun|n=>n⟩
theorem Tryz.lays106:Go.Proofs.Lays.n106 prog Tryz.lays106_ren:=by constructor<;>intros<;>kernel_rfl
open Go.RowKit in
theorem Tryz.strings_Compare(a b:ByteArray)(w:World) :
  zC 141 #[a,b] w fun e w'=>e=.returned (.int .i64 (Lib.compareBytes a.data.toList b.data.toList))/\w'=w:=Any.strings_Compare Tryz.lays106 a b w
def Tryz.laysM173_ren:Go.Shelf.Ren:=⟨fun|173=>175|246=>112|283=>108|284=>109|285=>110|286=>111|129=>161|317=>160|318=>162|319=>163|320=>164|337=>206|338=>207|n=>n,fun|2=>2|3=>3|9=>9|4=>4|171=>206|0=>0|53=>82|37=>80|5=>5|173=>209|212=>270|51=>271|20=>20|213=>272|46=>48|232=>342|233=>343|n=>n,fun|17=>4|18=>6|19=>7|n=>n⟩
theorem Tryz.laysM173:Go.Proofs.LaysM.n173 prog Tryz.laysM173_ren:=by constructor;constructor;all_goals(intros;kernel_rfl)
open Go.RowKit Go.Sort Go.Lib in
theorem Tryz.strconv_FormatInt_10(n:Int)(h0:-9223372036854775808<=n)(h1:n<=9223372036854775807)(w:World)(htab:Lib.TabIs prog w "internal/strconv.uint64pow10" .u64 Lib.pow10Tab) :
  zC 175 #[n,(10:Int)] w fun e w'=>e=.returned (.string ⟨(Lib.itoa n).toArray⟩)/\∃k os,w'=grow (w.drewN k) os:=Any.strconv_FormatInt_10 Tryz.laysM173 n h0 h1 w htab
def Tryz.laysC174_ren:Go.Shelf.Ren:=⟨fun|174=>174|247=>213|245=>214|287=>236|279=>237|280=>238|281=>239|282=>240|321=>252|322=>253|316=>254|171=>28|205=>255|243=>65|246=>112|283=>108|284=>109|285=>110|286=>111|129=>161|317=>160|318=>162|319=>163|320=>164|337=>206|338=>207|n=>n,fun|9=>9|3=>3|2=>2|75=>31|85=>280|4=>4|167=>350|5=>5|53=>82|175=>351|46=>48|168=>353|37=>80|0=>0|210=>368|21=>21|127=>212|145=>375|143=>373|171=>206|173=>209|212=>270|51=>271|20=>20|213=>272|232=>342|233=>343|80=>45|n=>n,fun|15=>10|16=>11|17=>4|18=>6|19=>7|n=>n⟩
theorem Tryz.laysC174:Go.Proofs.LaysC.n174 prog Tryz.laysC174_ren:=by constructor;constructor;constructor;all_goals(intros;kernel_rfl)
open Go.RowKit in
theorem Tryz.strconv_ParseInt_10_at64_ok(s:ByteArray)(hmax:s.size<=9223372036854775806)(v:Int)(h:Lib.parseIntB 64 s.data.toList=.ok v)(w:World) :
  zC 174 #[s,(10:Int),(64:Int)] w fun e w'=>e=.returned (.tuple #[v,.nilIface])/\(w'=w\/∃t,w'=Lib.bytesWorld w 5 t):=Any.strconv_ParseInt_10_at64_ok Tryz.laysC174 s hmax v h w
open Go.RowKit in
theorem Tryz.strconv_ParseInt_10_at64_syntax(s:ByteArray)(hlim:s.size<=281474976710656)(h:Lib.parseIntB 64 s.data.toList=.«syntax»)(ev:Value)(w:World)(hv:w.cell? ⟨10,0,none⟩=some ev)(hev:ev=.nilIface\/∃te pe,ev=.iface te pe) :
  zC 174 #[s,(10:Int),(64:Int)] w fun e w'=>∃N,e=.returned (.tuple #[.int .i64 (0),.iface 353 (.pointer (some ⟨N,0,none⟩))])/\w.heap.size<=N/\w'.heap[N]?=some (.cells #[.string ⟨#[80,97,114,115,101,73,110,116]⟩,s,ev] 368 (0,0))/\zB w w':=Any.strconv_ParseInt_10_at64_syntax Tryz.laysC174 s hlim h ev w hv hev
open Go.RowKit in
theorem Tryz.strconv_ParseInt_10_at64_range(s:ByteArray)(hlim:s.size<=281474976710656)(h:Lib.parseIntB 64 s.data.toList=.range)(ev:Value)(w:World)(hv:w.cell? ⟨11,0,none⟩=some ev)(hev:ev=.nilIface\/∃te pe,ev=.iface te pe) :
  zC 174 #[s,(10:Int),(64:Int)] w fun e w'=>∃N,e=.returned (.tuple #[(Lib.intSat 64 s.data.toList),.iface 353 (.pointer (some ⟨N,0,none⟩))])/\w.heap.size<=N/\w'.heap[N]?=some (.cells #[.string ⟨#[80,97,114,115,101,73,110,116]⟩,s,ev] 368 (0,0))/\zB w w':=Any.strconv_ParseInt_10_at64_range Tryz.laysC174 s hlim h ev w hv hev
def Tryz.lays143_ren:Go.Shelf.Ren:=⟨fun|143=>118|219=>172|217=>173|225=>209|224=>210|267=>211|266=>212|314=>235|n=>n,fun|9=>9|3=>3|4=>4|5=>5|46=>48|146=>348|51=>271|n=>n,fun|1=>5|n=>n⟩
theorem Tryz.lays143:Go.Proofs.Lays.n143 prog Tryz.lays143_ren:=by constructor<;>intros<;>kernel_rfl
open Go.RowKit Go.Lib in
theorem Tryz.strings_Index(s sub:ByteArray)(m:Int)(w:World)(hs:s.size<4294967281)(hm:w.cell? ⟨5,0,none⟩=some (.int .i64 m)) :
  zC 118 #[s,sub] w fun e w'=>e=.returned (.int .i64 (Lib.index s.data.toList sub.data.toList))/\w'=w:=Any.strings_Index Tryz.lays143 s sub m w hs hm
def Tryz.lays145_ren:Go.Shelf.Ren:=⟨fun|145=>79|220=>127|219=>172|217=>173|225=>209|224=>210|267=>211|266=>212|314=>235|n=>n,fun|9=>9|4=>4|59=>167|3=>3|5=>5|46=>48|146=>348|51=>271|n=>n,fun|1=>5|n=>n⟩
theorem Tryz.lays145:Go.Proofs.Lays.n145 prog Tryz.lays145_ren:=by constructor<;>intros<;>kernel_rfl
open Go.RowKit Go.Lib in
theorem Tryz.strings_Cut(s sep:ByteArray)(m:Int)(w:World)(hs:s.size<4294967281)(hm:w.cell? ⟨5,0,none⟩=some (.int .i64 m)) :
  zC 79 #[s,sep] w fun e w'=>e=.returned (.tuple #[.string ⟨(Lib.cut s.data.toList sep.data.toList).1.toArray⟩,.string ⟨(Lib.cut s.data.toList sep.data.toList).2.1.toArray⟩,.bool (Lib.cut s.data.toList sep.data.toList).2.2])/\∃n,w'=w.drewN n:=Any.strings_Cut Tryz.lays145 s sep m w hs hm
def Tryz.lays138_ren:Go.Shelf.Ren:=⟨fun|138=>117|195=>169|218=>171|143=>118|219=>172|217=>173|225=>209|224=>210|267=>211|266=>212|314=>235|n=>n,fun|9=>9|3=>3|4=>4|5=>5|0=>0|46=>48|146=>348|51=>271|n=>n,fun|1=>5|n=>n⟩
theorem Tryz.lays138:Go.Proofs.Lays.n138 prog Tryz.lays138_ren:=by constructor<;>intros<;>kernel_rfl
open Go.RowKit Go.Lib in
theorem Tryz.strings_Count_one(s:ByteArray)(c:UInt8)(w:World) :
  zC 117 #[s,.string ⟨#[c]⟩] w fun e w'=>e=.returned (.int .i64 (Lib.countByte s.data.toList c))/\w'=w:=Any.strings_Count_one Tryz.lays138 s c w

import Derived.Test.YthifnefkdjkicaaGreatDoorBdRec
import Derived.Shelf.Strconv.Itoa4
import Derived.Shelf.Strconv.ParseIntPublic10
import Derived.Shelf.Strings.Count
import Derived.Shelf.Strings.Cut
import Derived.Shelf.Strings.SlTrimAscii
open Go.Proofs.YthifnefkdjkicaaGreatDoor
set_option maxHeartbeats 2000000
set_option maxRecDepth 100000
namespace Go.Proofs.YthifnefkdjkicaaGreatDoor.Bd
open Go.RowKit Go.Maps
def yt(B s b:Nat)(O:Nat->Prop)(vars:Nat)(room:Int)(r:List Nd × Int)(w:World)(e:Ending)(w':World):Prop :=
 e=.returned (.tuple #[r.2,.nilIface])/\∃O',zx B w' s b O' vars room r.1/\zV O O' w w'
structure QJ(B:Nat)(w:World)(vars:Nat)(room:Int)(ns:List Nd):Prop where
 r:room<=4000
 l:((cnt ns+2^vars:Nat):Int)<=room+1
 n:ns.length+2^vars<=90000
 v:vars<=12
 hB:B<=w.heap.size
section
variable {B s b:Nat} {O:Nat->Prop} {F:FuncId} {op:Bool} {vars:Nat} {room:Int} {ns:List Nd} {w w':World}
theorem QJ.new(h:QJ B w vars room ns)(hb:w.heap.size<=w'.heap.size):QJ B w' vars room ns:=⟨h.r,h.l,h.n,h.v,Nat.le_trans h.hB hb⟩
theorem zms{vars:Nat}(h:vars<=12):2^vars<=4096:=Nat.pow_le_pow_right (by omega) h
theorem zn2(w:World)(k:Nd)(hk:k.Ok)(t:TypeId):ZC (w.alloc (.cells #[k.v,k.l,k.h] t)) w.heap.size [k.v,k.l,k.h]:=by
 obtain⟨x0,x1,x2,-⟩:=xr w (.int .i64 k.v) (.int .i64 k.l) (.int .i64 k.h) t;refine⟨by simp,fun i hi=>?_,fun z hz=>?_⟩
 ·simp at hi;obtain rfl|rfl|rfl:i=0\/i=1\/i=2:=by omega
  ·exact x0
  ·exact x1
  ·exact x2
 ·simp at hz;rcases hz with rfl|rfl|rfl
  ·exact hk.1
  ·exact hk.2.1
  ·exact hk.2.2
theorem ziA{O':Nat->Prop}{dm:Nat}{w1:World}(hb:zB w w1)(hd:w.heap.size<=dm)(h:MM O O' dm w1 w'):zV O O' w w' :=
 ⟨(zc.of_below hb _).andThen h.kept (fun i hi j=>hi.elim id (fun e=>by omega)),fun k hk=>by
  rcases h.own k hk with h1|h1
  ·exact .inl h1
  ·exact .inr (Nat.le_trans hb.size h1),fun k hk=>by
  rcases h.map k hk with h1|⟨h1,h2⟩
  ·exact .inl h1
  ·exact .inr ⟨h1,fun c=>h2 (c.below hb)⟩⟩
theorem zcs(hF:YF F op)(h:zx B w s b O vars room ns)(hg:zU vars ns)(hR:QJ B w vars room ns)(k:Nd)(h3:yJ ns k) :
  zC 136 #[.pointer (some s),.func (.func F) #[] #[],k.val] w (yt B s b O vars room (xC op ns k) w):=by
 have Y:=Nat.one_le_two_pow (n:=vars);have Z:=hR.r;have a3:=hR.l;have a4:=hR.n;have a6:=zms hR.v;have C:=zcU h3 (by omega);have hp:=Xk (vars:=vars) hg.ranked k;have a2:=(QK hg.ranked k).1;have q:=zhu (cp:=3) (h.new (below_new w (.cells #[k.v,k.l,k.h] 242))) (by omega) w.heap.size [k.v,k.l,k.h] (zn2 w k C _) (by simp) (fun x hx=>by
  simp at hx;rcases hx with rfl|rfl|rfl
  ·exact h3.a
  ·exact h3.b
  ·exact h3.c)
 rw[show [k.v,k.l,k.h].length=3 from rfl] at q;have HP:=zH q;have K:Hid (∀W,zB w W->zC 178 #[.pointer (some s),.func (.func F) #[] #[]] W fun e w'=>∃wk dm,e=.returned (.pointer (some ⟨wk,0,none⟩))/\W.heap.size<=dm/\WS B w' s b wk dm O F op vars room ns []/\zB W w'):=fun W hW=>by
  have hs:=hW.size;have a5:=h.slt;refine(zpm s F W B (Nat.le_trans hR.hB hs)).mono fun e w' ⟨he,hwk,hb⟩=>⟨_,_,he,Nat.le_refl _,?_,hb⟩;have U:=(h.new hW).new hb;exact⟨U,hwk,hg,JG op ns,fun ho=>by have:=(h.own _ ho).2;omega,fun ho=>by have:=(h.own _ ho).2;omega,by omega,Nat.le_trans hR.hB (Nat.le_trans hs hb.size)⟩
 have u:Hid (∀wk dm W,WS B W s b wk dm O F op vars room ns []->zC 179 #[.pointer (some ⟨wk,0,none⟩),k.val] W fun e w'=>e=.returned (.tuple #[.int .i64 (zu 24 op ns [] k).2.2,.nilIface])/\∃O',WS B w' s b wk dm O' F op vars room (zu 24 op ns [] k).1 (zu 24 op ns [] k).2.1/\MM O O' dm W w'):=fun wk dm W hW =>
  zeN Z hF 24 ns [] k O W hW h3 (by omega) (by omega) (by omega) (by simp;omega)
 have hb:=below_new w (.cells #[k.v,k.l,k.h] 242);obtain⟨x0,x1,x2,-⟩:=xr w (.int .i64 k.v) (.int .i64 k.l) (.int .i64 k.h) 242;have bl:w.heap.size<(w.alloc (.cells #[k.v,k.l,k.h] 242)).heap.size:=by simp
 unfold xC;generalize zu 24 op ns [] k=r at *;unfold Nd.val at u ⊢;have OO:Hid (∀j,O j->j<w.heap.size):=fun j ho=>(h.own j ho).2;clear q h hg hR h3 C hp hF;go_enter Tryz.func136,Tryz.ntmps136;go_wp2_with fail;refine HP.out.mono ?_;rintro e w1 ⟨rfl,rfl⟩;clear HP;have HB:=zH hb;clear hb;go_wp2_with fail;generalize (w.alloc (.cells #[k.v,k.l,k.h] 242))=W1 at *;have f0:W1.drew.cell? w.heap.size=some (.int .i64 k.v):=x0;have f1:W1.drew.cell? ⟨w.heap.size,1,none⟩=some (.int .i64 k.l):=x1;have f2:W1.drew.cell? ⟨w.heap.size,2,none⟩=some (.int .i64 k.h):=x2;have bl':w.heap.size<W1.drew.heap.size:=bl;have M:Hid (∀w2,Below W1.drew.heap.size W1.drew w2->zB w w2):=fun w2 o=>HB.out.drew.trans (o.mono HB.out.size);have R:Hid (∀w2 w3 O' dm,Below W1.drew.heap.size W1.drew w2->W1.drew.heap.size<=dm->MM O O' dm w2 w3->w3.cell? w.heap.size=some (.int .i64 k.v)/\w3.cell? ⟨w.heap.size,1,none⟩=some (.int .i64 k.l)/\w3.cell? ⟨w.heap.size,2,none⟩=some (.int .i64 k.h)):=fun w2 w3 O' dm o y mm=>by
  have h2:w.heap.size<w2.heap.size:=Nat.lt_of_lt_of_le bl' o.size;have ho:¬O w.heap.size:=fun h=>by have:=OO.out _ h;omega
  have hd:w.heap.size≠dm:=by omega
  exact⟨(mm.cell (a:=w.heap.size) h2 ho hd).trans ((o.cell (p:=w.heap.size) bl').trans f0),(mm.cell (a:=⟨w.heap.size,1,none⟩) h2 ho hd).trans ((o.cell (p:=⟨w.heap.size,1,none⟩) bl').trans f1),(mm.cell (a:=⟨w.heap.size,2,none⟩) h2 ho hd).trans ((o.cell (p:=⟨w.heap.size,2,none⟩) bl').trans f2)⟩
 go_cut [6,7] (fun a c wx=>a=.int .i64 r.2.2/\c=.nilIface/\∃O',zx B wx s b O' vars room r.1/\zV O O' w wx)
 case first =>
  go_region_held3 (fun X=>X.cell? w.heap.size=some (.int .i64 k.v)/\X.cell? ⟨w.heap.size,1,none⟩=some (.int .i64 k.l)/\X.cell? ⟨w.heap.size,2,none⟩=some (.int .i64 k.h)) (first|exact⟨f0,f1,f2⟩|exact⟨(o.cell (p:=w.heap.size) bl').trans f0,(o.cell (p:=⟨w.heap.size,1,none⟩) bl').trans f1,(o.cell (p:=⟨w.heap.size,2,none⟩) bl').trans f2⟩|exact SK)
   (first
    |(go_at_call 178;with_reducible refine(K.out _ HB.out.drew).mono ?_;rintro e w2 ⟨wk,dm,rfl,y,a1,o⟩)
    | (go_at_call 179;with_reducible refine (u.out _ _ _ a1).mono ?_;rintro e w3 ⟨rfl,O',a0,J⟩;have V:=M.out _ o;have SK:=R.out _ _ _ _ o y J))
  all_goals
   go_wp2_with fail;go_meet
   case rel=>exact⟨rfl,rfl,O',a0.space,ziA V (by omega) J⟩
 case rest =>obtain⟨rfl,rfl,hO⟩:=hcut;go_wp2;go_ret2;exact⟨rfl,hO⟩
theorem znX(x y:Int)(w:World):zR 138 #[x,y] w (.agg #[x,y,(0:Int)]):=by
 have hb:=below_new w (.cells #[x,y,(0:Int)] 242);go_enter Tryz.func138,Tryz.ntmps138;go_wp2;exact bodyPost_ret (v:=.agg #[x,y,(0:Int)]) (by simp[results,Tryz.results138,go_sem]) rfl ⟨rfl,hb⟩
theorem zpd(x y:Int)(w:World):zR 176 #[x,y] w (.agg #[x,(1:Int),y]):=by
 have hb:=below_new w (.cells #[x,(1:Int),y] 242);go_enter Tryz.func176,Tryz.ntmps176;go_wp2;exact bodyPost_ret (v:=.agg #[x,(1:Int),y]) (by simp[results,Tryz.results176,go_sem]) rfl ⟨rfl,hb⟩
theorem yt.later{r:List Nd × Int}{w1:World}{e:Ending}(hb:zB w w1)(h:yt B s b O vars room r w1 e w'):yt B s b O vars room r w e w':=by
 obtain⟨he,O',hS,hM⟩:=h;exact⟨he,O',hS,(zV.of_below O hb).trans hM⟩
theorem zp5(h:zx B w s b O vars room ns)(hg:zU vars ns)(hR:QJ B w vars room ns)(x y:Int)(h1:zj ns x=true)(h2:zj ns y=true) :
  zC 95 #[.pointer (some s),x,y] w (yt B s b O vars room (xC true ns ⟨x,y,0⟩) w):=by
 have HC:Hid (∀W,zB w W->zC 136 #[.pointer (some s),.func (.func 137) #[] #[],.agg #[x,y,(0:Int)]] W (yt B s b O vars room (xC true ns ⟨x,y,0⟩) W)):=fun W hW =>
  zcs zeM (h.new hW) hg (hR.new hW.size) ⟨x,y,0⟩ ⟨h1,h2,ZZ ns⟩
 generalize xC true ns ⟨x,y,0⟩=r at *;clear h hg hR h1 h2;go_enter Tryz.func95,Tryz.ntmps95;go_wp2_with fail;refine(znX x y w).mono ?_;rintro e w1 ⟨rfl,j⟩;have HC':=zH (HC.out w1 j);clear HC;go_wp2_with fail;refine HC'.out.mono ?_;rintro e w' ⟨rfl,hO⟩;go_wp2;go_ret2;exact yt.later j ⟨rfl,hO⟩
theorem zp7(h:zx B w s b O vars room ns)(hg:zU vars ns)(hR:QJ B w vars room ns)(x y:Int)(h1:zj ns x=true)(h2:zj ns y=true) :
  zC 135 #[.pointer (some s),x,y] w (yt B s b O vars room (xC true ns ⟨x,1,y⟩) w):=by
 have HC:Hid (∀W,zB w W->zC 136 #[.pointer (some s),.func (.func 137) #[] #[],.agg #[x,(1:Int),y]] W (yt B s b O vars room (xC true ns ⟨x,1,y⟩) W)):=fun W hW =>
  zcs zeM (h.new hW) hg (hR.new hW.size) ⟨x,1,y⟩ ⟨h1,xT ns,h2⟩
 generalize xC true ns ⟨x,1,y⟩=r at *;clear h hg hR h1 h2;go_enter Tryz.func135,Tryz.ntmps135;go_wp2_with fail;refine(zpd x y w).mono ?_;rintro e w1 ⟨rfl,j⟩;have HC':=zH (HC.out w1 j);clear HC;go_wp2_with fail;refine HC'.out.mono ?_;rintro e w' ⟨rfl,hO⟩;go_wp2;go_ret2;exact yt.later j ⟨rfl,hO⟩
theorem ziD(h:zx B w s b O vars room ns)(hR:QJ B w vars room ns)(v:Int)(is:Bool)(hv0:0<=v)(hv:v<(vars:Int)) :
  zC 134 #[.pointer (some s),v,is] w (yt B s b O vars room (xt ns v is) w):=by
 have h1:1<=vars:=by omega
 have h2:2<=2^vars:=by
  obtain⟨q,rfl⟩:∃q,vars=q+1:=⟨vars-1,by omega⟩;have:=Nat.one_le_two_pow (n:=q);rw[Nat.pow_succ];omega
 have o:=hR.r;have p:=hR.l;have u:=hR.n;have j:=hR.v;have HV:=zH (ziL h v hv0 hv);unfold xt;cases is with
 |true =>rw[zA2 rfl];have HN:=zH (za4 h (by omega) (by omega) hR.hB v 0 1 hv0 (by omega) (ZZ ns) (xT ns) (by rw[Y4];omega) (by rw[Yj];omega));generalize yi ns v 0 1=r at *;clear h hR;go_enter Tryz.func134,Tryz.ntmps134;go_wp2_with fail;refine HV.out.mono ?_;rintro e w1 ⟨rfl,rfl⟩;go_wp2_with fail;refine HN.out.mono ?_;rintro e w' ⟨rfl,hO⟩;go_wp2;go_ret2;exact⟨rfl,hO⟩
 |false =>rw[zA1 (by simp)];have HN:=zH (za4 h (by omega) (by omega) hR.hB v 1 0 hv0 (by omega) (xT ns) (ZZ ns) (by rw[Yj];omega) (by rw[Y4];omega));generalize yi ns v 1 0=r at *;clear h hR;go_enter Tryz.func134,Tryz.ntmps134;go_wp2_with fail;refine HV.out.mono ?_;rintro e w1 ⟨rfl,rfl⟩;go_wp2_with fail;refine HN.out.mono ?_;rintro e w' ⟨rfl,hO⟩;go_wp2;go_ret2;exact⟨rfl,hO⟩
end
end Go.Proofs.YthifnefkdjkicaaGreatDoor.Bd
namespace Go.Proofs.YthifnefkdjkicaaGreatDoor.Bd
open Go.RowKit Go.Maps
theorem Kj:Keyed Tryz.prog 3:=int_keyed Tryz.underlying3
theorem Km{x:Int}(h:I64 x):keyOf Tryz.prog 3 (.int .i64 x)=some (.int .i64 x):=keyOf_int_mk Tryz.underlying3 (Kz h)
end Go.Proofs.YthifnefkdjkicaaGreatDoor.Bd
namespace Go.Proofs.YthifnefkdjkicaaGreatDoor.Bd
open Go.RowKit Go.Maps
theorem zhh{ns:List Nd}{x:Int}(e:za ns x≠24):zt ns x=nd ns (pl x):=by unfold zt;rw[zA1 e];rfl
end Go.Proofs.YthifnefkdjkicaaGreatDoor.Bd
namespace Go.Proofs.YthifnefkdjkicaaGreatDoor.Bd
open Go.RowKit Go.Maps
section
variable {B s b:Nat} {O:Nat->Prop} {vars:Nat} {room:Int} {ns:List Nd} {w w':World}
theorem zin(vars:Nat)(hv:vars<=24)(room:Int)(h0:0<=room)(h1:room<=4000)(w:World)(B:Nat)(hB:B<=w.heap.size) :
  zC 22 #[vars,room] w fun e w'=>∃s b O,e=.returned (.tuple #[.pointer (some ⟨s,0,none⟩),.nilIface])/\zx B w' s b O vars room []/\w.heap.size<=s/\(∀k,O k->w.heap.size<=k)/\zB w w':=by
 have HN:=zH (zbt room h0 h1 w w.heap.size zN);go_enter Tryz.func22,Tryz.ntmps22;go_wp2_with fail;refine HN.out.mono ?_;rintro e w1 ⟨rfl,u,y⟩;have hs:=y.size;have hO:=(fun k (h:Own (w.heap.size + 1) w.heap.size (.slice none 0 0) k)=>(show w.heap.size<=k/\k<w1.heap.size from by
  obtain⟨D,hD,-⟩:=u.hmap;have M:=hD.lt;have R:=u.lt;rcases h with h|h|h
  ·omega
  ·omega
  ·simp [Value.ownBlock] at h))
 have C:=y.alloc hs (.cells #[.pointer (some ⟨w.heap.size+1,0,none⟩),vars] 126);have o:=u.kept (zc.alloc (fun _=>False) w1 (.cells #[.pointer (some ⟨w.heap.size+1,0,none⟩),vars] 126)) (fun _ _ h=>h);have q:zx B (w1.alloc (.cells #[.pointer (some ⟨w.heap.size+1,0,none⟩),vars] 126)) w1.heap.size (w.heap.size+1) (Own (w.heap.size+1) w.heap.size (.slice none 0 0)) vars room []:=by
  have K:zP B (w1.alloc (.cells #[.pointer (some ⟨w.heap.size+1,0,none⟩),vars] 126)) (w.heap.size+1) w.heap.size (.slice none 0 0) [] [] room 2 :=
   ⟨o.lt,o.croom,o.cnodes,o.cmap,o.cnext,o.froz,ownsRow_base o.row hB,o.hmap,o.d1,o.d2,o.d3,by omega,hB⟩
  refine⟨⟨_,_,[],2,K,⟨fun p h=>by simp at h,fun j h=>by simp at h,by simp,fun j h=>by simp at h⟩,⟨0,rfl,by simp,fun j h=>by omega⟩,fun _ h=>h⟩,fun k hk=>⟨by have:=(hO k hk).1;omega,by have:=(hO k hk).2;simp;omega⟩,fun ho=>by have:=(hO _ ho).2;omega,by simp,by simp,by simp⟩
 have HF:=zH q;have J:=zH C;have HO:=zH hO;clear HN u o q C hO;go_wp2;go_ret2;exact⟨_,_,_,rfl,HF.out,hs,fun k hk=>(HO.out k hk).1,J.out⟩
theorem zct(h:zx B w s b O vars room ns):zC 58 #[.pointer (some s)] w fun e w'=>e=.returned (.int .i64 vars)/\w=w':=by
 have c1:=h.c1;clear h;go_enter Tryz.func58,Tryz.ntmps58;go_wp2;go_ret;exact⟨rfl,rfl⟩
theorem zjS(h:zx B w s b O vars room ns)(hr:qd ns)(hl:ns.length<=90000)(hB:B<=w.heap.size)(bf:Nat){cp:Nat}(fs:List Int)(hF:ZC w bf fs)(hfl:fs.length<=1000) :
  zC 61 #[.pointer (some s),.slice (some bf) fs.length cp] w fun e w'=>∃n:Int,e=.returned (.int .i64 n)/\∃O',zx B w' s b O' vars room (qy ns (qt ns fs))/\zV O O' w w':=by
 have c0:=h.c0;have HC:=zH (znm (cp:=cp) h hr hl hB bf fs hF hfl);generalize fs.length=n at *;clear h hF hr;go_enter Tryz.func61,Tryz.ntmps61;go_wp2_with fail;refine HC.out.mono ?_;rintro e w1 ⟨n,rfl,hO⟩;go_wp2;go_ret;exact⟨n,rfl,hO⟩
end
end Go.Proofs.YthifnefkdjkicaaGreatDoor.Bd
namespace Go.Proofs.YthifnefkdjkicaaGreatDoor.Bd
open Go.RowKit Go.Maps
section
variable {B s b:Nat} {O:Nat->Prop} {vars:Nat} {room:Int} {ns:List Nd} {w w':World}
theorem zgO(h:zx B w s b O vars room ns):zC 93 #[.pointer (some b)] w fun e w'=>e=.returned (.int .i64 ((QW ns).length:Int))/\w=w':=by
 obtain⟨bm,v,L,next,hA,j,-,hO⟩:=h.arena;rw[<-KW j];exact JI hA
end
end Go.Proofs.YthifnefkdjkicaaGreatDoor.Bd
namespace Go.Proofs.YthifnefkdjkicaaGreatDoor
open Go.RowKit
theorem zoI(F:Nat)(cb:Array Value)(p:List Int->Bool)(xs:List (List Int))(a:Option Addr)(cap:Nat)(w:World)(hm:xs.length<=9223372036854775807)
  (hent:∀q w,(callFunc F q).run Tryz.prog w=.ok (.enter F q) w) (hI:xJ w a xs)
  (hf:∀W i (a':Option Addr) (cap':Nat),zB w W->i<xs.length->cap'<=9223372036854775807->(xs.getD i []).length<=cap'->qe W a' (xs.getD i [])->zR F (#[.slice a' (xs.getD i []).length cap']++cb) W (.bool (p (xs.getD i [])))) :
  zR 89 #[.slice a xs.length cap,.func (.func F) #[] cb] w (.int .i64 (yI p xs)):=by
 have HF:=zH hf;have HI:=zH hI;clear hf hI;go_enter Tryz.func89,Tryz.ntmps89;go_wp2_with fail;go_loopw [8] (fun kV wr=>∃k:Nat,k<=xs.length/\kV=.int .i64 k/\(∀j,j<k->p (xs.getD j [])=false)/\zB w wr) (fun kV _=>xs.length-(intOf kV).toNat)
 case atStart=>exact⟨0,Nat.zero_le _,rfl,fun j h=>by omega,Below.refl _ _⟩
 case round =>
  obtain⟨k,hk,rfl,h1,C⟩:=hrel;have H1:=zH h1;have o:=zH C;clear h1 C
  by_cases hlt:k<xs.length
  ·obtain⟨ad,a',cap',rfl,hl,hc,g1,g2,g3⟩:=HI.out.below o.out k hlt;have HC:=zH (HF.out wr k a' cap' o.out hlt g2 g1 g3);clear g3 g1 g2;cases hp:p (xs.getD k []) with
   |true =>rw[hp] at HC;have HP:=zH hp;clear hp;generalize hx:xs.getD k []=x at *;have HX:=zH hx;clear hx;go_wp2_with fail;refine HC.out.mono ?_;rintro e w1 ⟨rfl,u⟩;have y:Hid (zB w w1):=zT o.out u;clear u HC;go_wp2;go_ret;exact⟨by rw[JV H1.out hlt (by rw[HX.out];exact HP.out)];rfl,y.out⟩
   |false =>
    rw[hp] at HC;have HP:=zH hp;clear hp;generalize hx:xs.getD k []=x at *;have HX:=zH hx;clear hx;go_wp2_with fail;refine HC.out.mono ?_;rintro e w1 ⟨rfl,u⟩;have y:Hid (zB w w1):=zT o.out u;clear u HC;go_wp2;go_roundw
    case rel=>exact ⟨k + 1,hlt,by go_num,fun j hj=>(by
     rcases Nat.lt_succ_iff_lt_or_eq.1 hj with e|e
     ·exact H1.out j e
     ·rw [e,HX.out];exact HP.out),y.out⟩
    case measure=>simp[intOf];omega
  ·obtain rfl:k=xs.length:=by omega
   go_wp2;go_ret;exact⟨by rw[zbP H1.out];rfl,o.out⟩
theorem zjw(F:Nat)(cb:Array Value)(p:List Int->Bool)(xs:List (List Int))(a:Option Addr)(cap:Nat)(w:World)(hm:xs.length<=9223372036854775807)
  (hent:∀j w,(callFunc F j).run Tryz.prog w=.ok (.enter F j) w) (hI:xJ w a xs)
  (hf:∀W i (a':Option Addr) (cap':Nat),zB w W->i<xs.length->cap'<=9223372036854775807->(xs.getD i []).length<=cap'->qe W a' (xs.getD i [])->zR F (#[.slice a' (xs.getD i []).length cap']++cb) W (.bool (p (xs.getD i [])))) :
  zR 55 #[.slice a xs.length cap,.func (.func F) #[] cb] w (.bool (xs.any p)):=by
 have H:=zH (zoI F cb p xs a cap w hm hent hI hf);clear hf hI hent;rw[<-zaI];generalize yI p xs=i at *;go_enter Tryz.func55,Tryz.ntmps55;go_wp2_with fail;refine H.out.mono ?_;rintro e w1 ⟨rfl,o⟩;have q:=zH o;clear o H;go_wp2;go_ret;exact⟨by first|rfl|simp,q.out⟩
end Go.Proofs.YthifnefkdjkicaaGreatDoor
namespace Go.Proofs.YthifnefkdjkicaaGreatDoor
open Go.RowKit
def yF(vals:Nat)(l:List (List Int)):Bool:=l.all (ZE vals)
theorem zj9(vals:Nat)(l:List (List Int)):yF vals l=!(l.any fun c=>!ZE vals c):=by
 unfold yF;rw[List.all_eq_not_any_not]
end Go.Proofs.YthifnefkdjkicaaGreatDoor
namespace Go.Proofs.YthifnefkdjkicaaGreatDoor.Bd
open Go.RowKit Go.Maps Go.Deep
theorem zeK(x:Int)(hx:yj 24 x=true)(w:World):zC 92 #[x] w fun e w'=>e=.returned (.int .i64 (zW x))/\w=w':=by
 have h0:=xA.1 hx;have hm:max x (-x)-1=(zW x:Int):=by unfold zW;omega
 have h1:-9223372036854775808<=max x (-x)-1:=by omega
 have h2:max x (-x)-1<=9223372036854775807:=by omega
 have h3:-9223372036854775808<=-x:=by omega
 have h4:-x<=9223372036854775807:=by omega
 clear hx;go_enter Tryz.func92,Tryz.ntmps92;go_wp2;go_ret;refine⟨?_,rfl⟩;rw[<-hm]
 first|rfl|(congr 2;omega)|go_num
theorem znK(x:Int)(vars:Nat)(h24:vars<=24)(hx:yj vars x=true)(b:Nat)(w:World)(hc:w.cell? b=some (.int .i64 vars)) :
  zR 91 #[x,.pointer (some b)] w (.bool false):=by
 have HV:=zH (zeK x (QM (by omega) hx) w);have hv:=YZ hx;clear hx;generalize zW x=v at *;have h1:¬(v:Int)<0:=by omega
 have h2:¬(vars:Int)<=(v:Int):=by omega
 go_enter Tryz.func91,Tryz.ntmps91;go_wp2_with fail;refine HV.out.mono ?_;rintro e w1 ⟨rfl,rfl⟩;go_wp2;go_ret;exact⟨by simp;exact hv,Below.refl _ _⟩
theorem zoz:∀j w,(callFunc 91 j).run Tryz.prog w=.ok (.enter 91 j) w:=by intro j w;kernel_rfl
theorem zkF:∀j w,(callFunc 56 j).run Tryz.prog w=.ok (.enter 56 j) w:=by intro j w;kernel_rfl
theorem zp0(c:List Int)(vars:Nat)(h24:vars<=24)(hl:ql vars c)(a:Option Addr)(cap:Nat)(w:World)(hI:qe w a c)(hm:c.length<=9223372036854775807) :
  zR 57 #[.slice a c.length cap,vars] w (.bool true):=by
 have hb:=Go.Proofs.YthifnefkdjkicaaGreatDoor.below_new w (.cells #[vars] 3);have HC:=zH (zk9 91 #[.pointer (some w.heap.size)] (fun _=>false) c a cap (w.alloc (.cells #[vars] 3)) hm zoz (hI.below hb) (fun W i hW hi=>znK (c.getD i 0) vars h24 (hl _ (xR hi)) w.heap.size W ((hW.cell (p:=w.heap.size) (by simp)).trans (by simp))));have HB:=zH hb;have hf:(c.any fun _=>false)=false:=by simp
 rw[hf] at HC;clear hb hI hl hf;go_enter Tryz.func57,Tryz.ntmps57;go_wp2_with fail;refine HC.out.mono ?_;rintro e w1 ⟨rfl,j⟩;have o:Hid (zB w w1):=zT HB.out j;clear j HC;go_wp2;go_ret;exact⟨by first|rfl|simp,o.out⟩
section
variable {B s b:Nat} {O:Nat->Prop} {vars:Nat} {room:Int} {ns:List Nd} {w:World}
theorem zmy(hS:zx B w s b O vars room ns)(h24:vars<=24)(c:List Int)(hl:ql vars c)(a:Option Addr)(cap:Nat)(hI:qe w a c)(hm:c.length<=9223372036854775807)(bx:Nat)(hc:w.cell? bx=some (.pointer (some s))) :
  zR 56 #[.slice a c.length cap,.pointer (some bx)] w (.bool false):=by
 have HV:=zH (zct hS);have HW:=zH (zp0 c vars h24 hl a cap w hI hm);clear hS hI hl;go_enter Tryz.func56,Tryz.ntmps56;go_wp2_with fail;refine HV.out.mono ?_;rintro e w1 ⟨rfl,rfl⟩;clear HV;go_wp2_with fail;refine HW.out.mono ?_;rintro e w1 ⟨rfl,j⟩;have o:=zH j;clear HW j;go_wp2;go_ret;exact⟨by first|rfl|simp,o.out⟩
theorem zdH(hS:zx B w s b O vars room ns):zC 54 #[.pointer (some s)] w fun e w'=>e=.returned (.bool false)/\w=w':=by
 have c0:=hS.c0;clear hS;go_enter Tryz.func54,Tryz.ntmps54;go_wp2;go_ret;exact⟨by first|rfl|simp,rfl⟩
theorem zmJ(hS:zx B w s b O vars room ns)(h0:cnt ns=0):zC 59 #[.pointer (some s)] w fun e w'=>e=.returned (.slice none 0 0)/\w=w':=by
 have HL:=zgO hS;rw[zde,h0] at HL;have HL:=zH HL;have c0:=hS.c0;clear hS h0;go_enter Tryz.func59,Tryz.ntmps59;go_wp2_with fail;go_loopw [3,4] (fun o _ wr=>o=.slice none 0 0/\wr=w) (fun _ _ _=>0)
 case atStart=>exact⟨rfl,rfl⟩
 case round =>obtain⟨rfl,rfl⟩:=hrel;go_wp2_with fail;refine HL.out.mono ?_;rintro e w1 ⟨rfl,rfl⟩;go_wp2;go_ret;exact⟨rfl,rfl⟩
end
end Go.Proofs.YthifnefkdjkicaaGreatDoor.Bd
namespace Go.Proofs
open Go.Shelf
def Tryz.lays161_ren:Go.Shelf.Ren:=⟨fun|161=>150|231=>190|227=>191|233=>192|235=>193|228=>221|197=>144|151=>222|260=>182|152=>241|137=>102|119=>246|224=>184|225=>183|217=>147|266=>186|n=>n,fun|9=>9|4=>4|3=>3|5=>5|117=>297|116=>296|0=>0|124=>300|105=>251|21=>21|119=>322|46=>22|139=>325|138=>324|n=>n,fun|3=>5|4=>6|n=>n⟩
theorem Tryz.lays161:Go.Proofs.Lays.n161 Tryz.prog Tryz.lays161_ren:={
 mixed:=by kernel_rfl
 f119:=zK Tryz.func246 (by kernel_rfl)
 f137:=zK Tryz.func102 (by kernel_rfl)
 f151:=zK Tryz.func222 (by kernel_rfl)
 f152:=zK Tryz.func241 (by kernel_rfl)
 f161:=zK Tryz.func150 (by kernel_rfl)
 f197:=zK Tryz.func144 (by kernel_rfl)
 f217:=zK Tryz.func147 (by kernel_rfl)
 f224:=zK Tryz.func184 (by kernel_rfl)
 f225:=zK Tryz.func183 (by kernel_rfl)
 f227:=zK Tryz.func191 (by kernel_rfl)
 f228:=zK Tryz.func221 (by kernel_rfl)
 f231:=zK Tryz.func190 (by kernel_rfl)
 f233:=zK Tryz.func192 (by kernel_rfl)
 f235:=zK Tryz.func193 (by kernel_rfl)
 f260:=zK Tryz.func182 (by kernel_rfl)
 f266:=zK Tryz.func186 (by kernel_rfl)
 t0:=Tryz.underlying0
 a0:=Tryz.isAgg0
 z0:=Tryz.sizeOf0
 v0:=Tryz.zeroValue0
 t3:=Tryz.underlying3
 a3:=Tryz.isAgg3
 z3:=Tryz.sizeOf3
 v3:=Tryz.zeroValue3
 t4:=Tryz.underlying4
 a4:=Tryz.isAgg4
 z4:=Tryz.sizeOf4
 v4:=Tryz.zeroValue4
 t5:=Tryz.underlying5
 a5:=Tryz.isAgg5
 z5:=Tryz.sizeOf5
 v5:=Tryz.zeroValue5
 t9:=Tryz.underlying9
 a9:=Tryz.isAgg9
 z9:=Tryz.sizeOf9
 v9:=Tryz.zeroValue9
 t21:=Tryz.underlying21
 a21:=Tryz.isAgg21
 z21:=Tryz.sizeOf21
 v21:=Tryz.zeroValue21
 t46:=Tryz.underlying22
 a46:=Tryz.isAgg22
 z46:=Tryz.sizeOf22
 v46:=Tryz.zeroValue22
 t105:=Tryz.underlying251
 a105:=Tryz.isAgg251
 z105:=Tryz.sizeOf251
 v105:=Tryz.zeroValue251
 t116:=Tryz.underlying296
 a116:=Tryz.isAgg296
 z116:=Tryz.sizeOf296
 t117:=Tryz.underlying297
 a117:=Tryz.isAgg297
 z117:=Tryz.sizeOf297
 v117:=Tryz.zeroValue297
 t119:=Tryz.underlying322
 a119:=Tryz.isAgg322
 z119:=Tryz.sizeOf322
 t124:=Tryz.underlying300
 a124:=Tryz.isAgg300
 z124:=Tryz.sizeOf300
 v124:=Tryz.zeroValue300
 t138:=Tryz.underlying324
 a138:=Tryz.isAgg324
 z138:=Tryz.sizeOf324
 v138:=Tryz.zeroValue324
 t139:=Tryz.underlying325
 a139:=Tryz.isAgg325
 z139:=Tryz.sizeOf325
 v139:=Tryz.zeroValue325
 g3:=by kernel_rfl
 g4:=by kernel_rfl }
def Tryz.lays106_ren:Go.Shelf.Ren:=⟨fun|106=>124|213=>168|265=>208|n=>n,fun|9=>9|3=>3|n=>n,fun|n=>n⟩
theorem Tryz.lays106:Go.Proofs.Lays.n106 Tryz.prog Tryz.lays106_ren:={
 mixed:=by kernel_rfl
 f106:=zK Tryz.func124 (by kernel_rfl)
 f213:=zK Tryz.func168 (by kernel_rfl)
 f265:=zK Tryz.func208 (by kernel_rfl)
 t3:=Tryz.underlying3
 a3:=Tryz.isAgg3
 z3:=Tryz.sizeOf3
 v3:=Tryz.zeroValue3
 t9:=Tryz.underlying9
 a9:=Tryz.isAgg9
 z9:=Tryz.sizeOf9
 v9:=Tryz.zeroValue9 }
open Go.RowKit in
theorem Tryz.strings_Compare(a b:ByteArray)(w:World) :
  zC 124 #[a,b] w fun e w'=>e=.returned (.int .i64 (Lib.compareBytes a.data.toList b.data.toList))/\w'=w:=Any.strings_Compare Tryz.lays106 a b w
def Tryz.laysM173_ren:Go.Shelf.Ren:=⟨fun|173=>149|246=>189|283=>217|284=>218|285=>219|286=>220|129=>206|317=>237|318=>238|319=>239|320=>240|337=>244|338=>245|n=>n,fun|2=>2|3=>3|9=>9|4=>4|171=>335|0=>0|53=>314|37=>337|5=>5|173=>338|212=>354|51=>312|20=>20|213=>355|46=>22|232=>364|233=>365|n=>n,fun|17=>9|18=>10|19=>11|n=>n⟩
theorem Tryz.laysM173:Go.Proofs.LaysM.n173 Tryz.prog Tryz.laysM173_ren:={
 mixed:=by kernel_rfl
 f129:=zK Tryz.func206 (by kernel_rfl)
 f173:=zK Tryz.func149 (by kernel_rfl)
 f246:=zK Tryz.func189 (by kernel_rfl)
 f283:=zK Tryz.func217 (by kernel_rfl)
 f284:=zK Tryz.func218 (by kernel_rfl)
 f285:=zK Tryz.func219 (by kernel_rfl)
 f286:=zK Tryz.func220 (by kernel_rfl)
 f317:=zK Tryz.func237 (by kernel_rfl)
 f318:=zK Tryz.func238 (by kernel_rfl)
 f319:=zK Tryz.func239 (by kernel_rfl)
 f320:=zK Tryz.func240 (by kernel_rfl)
 f337:=zK Tryz.func244 (by kernel_rfl)
 f338:=zK Tryz.func245 (by kernel_rfl)
 t0:=Tryz.underlying0
 a0:=Tryz.isAgg0
 z0:=Tryz.sizeOf0
 v0:=Tryz.zeroValue0
 t2:=Tryz.underlying2
 a2:=Tryz.isAgg2
 z2:=Tryz.sizeOf2
 v2:=Tryz.zeroValue2
 t3:=Tryz.underlying3
 a3:=Tryz.isAgg3
 z3:=Tryz.sizeOf3
 v3:=Tryz.zeroValue3
 t4:=Tryz.underlying4
 a4:=Tryz.isAgg4
 z4:=Tryz.sizeOf4
 v4:=Tryz.zeroValue4
 t5:=Tryz.underlying5
 a5:=Tryz.isAgg5
 z5:=Tryz.sizeOf5
 v5:=Tryz.zeroValue5
 t9:=Tryz.underlying9
 a9:=Tryz.isAgg9
 z9:=Tryz.sizeOf9
 v9:=Tryz.zeroValue9
 t20:=Tryz.underlying20
 a20:=Tryz.isAgg20
 z20:=Tryz.sizeOf20
 v20:=Tryz.zeroValue20
 t37:=Tryz.underlying337
 a37:=Tryz.isAgg337
 z37:=Tryz.sizeOf337
 v37:=Tryz.zeroValue337
 t46:=Tryz.underlying22
 a46:=Tryz.isAgg22
 z46:=Tryz.sizeOf22
 v46:=Tryz.zeroValue22
 t51:=Tryz.underlying312
 a51:=Tryz.isAgg312
 z51:=Tryz.sizeOf312
 v51:=Tryz.zeroValue312
 t53:=Tryz.underlying314
 a53:=Tryz.isAgg314
 z53:=Tryz.sizeOf314
 v53:=Tryz.zeroValue314
 t171:=Tryz.underlying335
 a171:=Tryz.isAgg335
 z171:=Tryz.sizeOf335
 v171:=Tryz.zeroValue335
 t173:=Tryz.underlying338
 a173:=Tryz.isAgg338
 z173:=Tryz.sizeOf338
 v173:=Tryz.zeroValue338
 t212:=Tryz.underlying354
 a212:=Tryz.isAgg354
 z212:=Tryz.sizeOf354
 v212:=Tryz.zeroValue354
 t213:=Tryz.underlying355
 a213:=Tryz.isAgg355
 z213:=Tryz.sizeOf355
 t232:=Tryz.underlying364
 a232:=Tryz.isAgg364
 z232:=Tryz.sizeOf364
 v232:=Tryz.zeroValue364
 t233:=Tryz.underlying365
 a233:=Tryz.isAgg365
 z233:=Tryz.sizeOf365
 v233:=Tryz.zeroValue365
 g17:=by kernel_rfl
 g18:=by kernel_rfl
 g19:=by kernel_rfl
 i0:=by kernel_rfl
 i2:=by kernel_rfl
 i3:=by kernel_rfl
 i4:=by kernel_rfl
 i5:=by kernel_rfl
 i9:=by kernel_rfl
 i20:=by kernel_rfl
 i37:=by kernel_rfl
 i46:=by kernel_rfl
 i51:=by kernel_rfl
 i53:=by kernel_rfl
 i171:=by kernel_rfl
 i173:=by kernel_rfl
 i212:=by kernel_rfl
 i232:=by kernel_rfl
 i233:=by kernel_rfl
 m17:=by kernel_rfl
 m18:=by kernel_rfl
 m19:=by kernel_rfl }
open Go.RowKit Go.Sort Go.Lib in
theorem Tryz.strconv_FormatInt_10(n:Int)(h0:-9223372036854775808<=n)(h1:n<=9223372036854775807)(w:World)(htab:Lib.TabIs Tryz.prog w "internal/strconv.uint64pow10" .u64 Lib.pow10Tab) :
  zC 149 #[n,(10:Int)] w fun e w'=>e=.returned (.string ⟨(Lib.itoa n).toArray⟩)/\∃k os,w'=grow (w.drewN k) os:=Any.strconv_FormatInt_10 Tryz.laysM173 n h0 h1 w htab
def Tryz.laysC174_ren:Go.Shelf.Ren:=⟨fun|174=>148|247=>187|245=>188|287=>212|279=>213|280=>214|281=>215|282=>216|321=>232|322=>233|316=>234|171=>236|205=>235|243=>243|246=>189|283=>217|284=>218|285=>219|286=>220|129=>206|317=>237|318=>238|319=>239|320=>240|337=>244|338=>245|n=>n,fun|9=>9|3=>3|2=>2|75=>33|85=>253|4=>4|167=>328|5=>5|53=>314|175=>329|46=>22|168=>331|37=>337|0=>0|210=>352|21=>21|127=>359|145=>362|143=>360|171=>335|173=>338|212=>354|51=>312|20=>20|213=>355|232=>364|233=>365|80=>366|n=>n,fun|15=>7|16=>8|17=>9|18=>10|19=>11|n=>n⟩
theorem Tryz.laysC174:Go.Proofs.LaysC.n174 Tryz.prog Tryz.laysC174_ren:={
 mixed:=by kernel_rfl
 f129:=zK Tryz.func206 (by kernel_rfl)
 f171:=zK Tryz.func236 (by kernel_rfl)
 f174:=zK Tryz.func148 (by kernel_rfl)
 f205:=zK Tryz.func235 (by kernel_rfl)
 f243:=zK Tryz.func243 (by kernel_rfl)
 f245:=zK Tryz.func188 (by kernel_rfl)
 f246:=zK Tryz.func189 (by kernel_rfl)
 f247:=zK Tryz.func187 (by kernel_rfl)
 f279:=zK Tryz.func213 (by kernel_rfl)
 f280:=zK Tryz.func214 (by kernel_rfl)
 f281:=zK Tryz.func215 (by kernel_rfl)
 f282:=zK Tryz.func216 (by kernel_rfl)
 f283:=zK Tryz.func217 (by kernel_rfl)
 f284:=zK Tryz.func218 (by kernel_rfl)
 f285:=zK Tryz.func219 (by kernel_rfl)
 f286:=zK Tryz.func220 (by kernel_rfl)
 f287:=zK Tryz.func212 (by kernel_rfl)
 f316:=zK Tryz.func234 (by kernel_rfl)
 f317:=zK Tryz.func237 (by kernel_rfl)
 f318:=zK Tryz.func238 (by kernel_rfl)
 f319:=zK Tryz.func239 (by kernel_rfl)
 f320:=zK Tryz.func240 (by kernel_rfl)
 f321:=zK Tryz.func232 (by kernel_rfl)
 f322:=zK Tryz.func233 (by kernel_rfl)
 f337:=zK Tryz.func244 (by kernel_rfl)
 f338:=zK Tryz.func245 (by kernel_rfl)
 t0:=Tryz.underlying0
 a0:=Tryz.isAgg0
 z0:=Tryz.sizeOf0
 v0:=Tryz.zeroValue0
 t2:=Tryz.underlying2
 a2:=Tryz.isAgg2
 z2:=Tryz.sizeOf2
 v2:=Tryz.zeroValue2
 t3:=Tryz.underlying3
 a3:=Tryz.isAgg3
 z3:=Tryz.sizeOf3
 v3:=Tryz.zeroValue3
 t4:=Tryz.underlying4
 a4:=Tryz.isAgg4
 z4:=Tryz.sizeOf4
 v4:=Tryz.zeroValue4
 t5:=Tryz.underlying5
 a5:=Tryz.isAgg5
 z5:=Tryz.sizeOf5
 v5:=Tryz.zeroValue5
 t9:=Tryz.underlying9
 a9:=Tryz.isAgg9
 z9:=Tryz.sizeOf9
 v9:=Tryz.zeroValue9
 t20:=Tryz.underlying20
 a20:=Tryz.isAgg20
 z20:=Tryz.sizeOf20
 v20:=Tryz.zeroValue20
 t21:=Tryz.underlying21
 a21:=Tryz.isAgg21
 z21:=Tryz.sizeOf21
 v21:=Tryz.zeroValue21
 t37:=Tryz.underlying337
 a37:=Tryz.isAgg337
 z37:=Tryz.sizeOf337
 v37:=Tryz.zeroValue337
 t46:=Tryz.underlying22
 a46:=Tryz.isAgg22
 z46:=Tryz.sizeOf22
 v46:=Tryz.zeroValue22
 t51:=Tryz.underlying312
 a51:=Tryz.isAgg312
 z51:=Tryz.sizeOf312
 v51:=Tryz.zeroValue312
 t53:=Tryz.underlying314
 a53:=Tryz.isAgg314
 z53:=Tryz.sizeOf314
 v53:=Tryz.zeroValue314
 t75:=Tryz.underlying33
 a75:=Tryz.isAgg33
 z75:=Tryz.sizeOf33
 v75:=Tryz.zeroValue33
 t85:=Tryz.underlying253
 a85:=Tryz.isAgg253
 z85:=Tryz.sizeOf253
 v85:=Tryz.zeroValue253
 t127:=Tryz.underlying359
 a127:=Tryz.isAgg359
 z127:=Tryz.sizeOf359
 v127:=Tryz.zeroValue359
 t143:=Tryz.underlying360
 a143:=Tryz.isAgg360
 z143:=Tryz.sizeOf360
 v143:=Tryz.zeroValue360
 t145:=Tryz.underlying362
 a145:=Tryz.isAgg362
 z145:=Tryz.sizeOf362
 v145:=Tryz.zeroValue362
 t167:=Tryz.underlying328
 a167:=Tryz.isAgg328
 z167:=Tryz.sizeOf328
 v167:=Tryz.zeroValue328
 t168:=Tryz.underlying331
 a168:=Tryz.isAgg331
 z168:=Tryz.sizeOf331
 v168:=Tryz.zeroValue331
 t171:=Tryz.underlying335
 a171:=Tryz.isAgg335
 z171:=Tryz.sizeOf335
 v171:=Tryz.zeroValue335
 t173:=Tryz.underlying338
 a173:=Tryz.isAgg338
 z173:=Tryz.sizeOf338
 v173:=Tryz.zeroValue338
 t175:=Tryz.underlying329
 a175:=Tryz.isAgg329
 z175:=Tryz.sizeOf329
 v175:=Tryz.zeroValue329
 t210:=Tryz.underlying352
 a210:=Tryz.isAgg352
 z210:=Tryz.sizeOf352
 v210:=Tryz.zeroValue352
 t212:=Tryz.underlying354
 a212:=Tryz.isAgg354
 z212:=Tryz.sizeOf354
 v212:=Tryz.zeroValue354
 t213:=Tryz.underlying355
 a213:=Tryz.isAgg355
 z213:=Tryz.sizeOf355
 t232:=Tryz.underlying364
 a232:=Tryz.isAgg364
 z232:=Tryz.sizeOf364
 v232:=Tryz.zeroValue364
 t233:=Tryz.underlying365
 a233:=Tryz.isAgg365
 z233:=Tryz.sizeOf365
 v233:=Tryz.zeroValue365
 g15:=by kernel_rfl
 g16:=by kernel_rfl
 g17:=by kernel_rfl
 g18:=by kernel_rfl
 g19:=by kernel_rfl
 t80:=Tryz.underlying366
 a80:=Tryz.isAgg366
 z80:=Tryz.sizeOf366
 v80:=Tryz.zeroValue366
 i0:=by kernel_rfl
 i2:=by kernel_rfl
 i3:=by kernel_rfl
 i4:=by kernel_rfl
 i5:=by kernel_rfl
 i9:=by kernel_rfl
 i20:=by kernel_rfl
 i21:=by kernel_rfl
 i37:=by kernel_rfl
 i46:=by kernel_rfl
 i51:=by kernel_rfl
 i53:=by kernel_rfl
 i75:=by kernel_rfl
 i80:=by kernel_rfl
 i85:=by kernel_rfl
 i127:=by kernel_rfl
 i143:=by kernel_rfl
 i145:=by kernel_rfl
 i167:=by kernel_rfl
 i168:=by kernel_rfl
 i171:=by kernel_rfl
 i173:=by kernel_rfl
 i175:=by kernel_rfl
 i210:=by kernel_rfl
 i212:=by kernel_rfl
 i232:=by kernel_rfl
 i233:=by kernel_rfl
 m15:=by kernel_rfl
 m16:=by kernel_rfl
 m17:=by kernel_rfl
 m18:=by kernel_rfl
 m19:=by kernel_rfl
 c0:=by kernel_rfl
 c2:=by kernel_rfl
 c3:=by kernel_rfl
 c4:=by kernel_rfl
 c5:=by kernel_rfl
 c9:=by kernel_rfl
 c20:=by kernel_rfl
 c21:=by kernel_rfl
 c37:=by kernel_rfl
 c46:=by kernel_rfl
 c51:=by kernel_rfl
 c53:=by kernel_rfl
 c75:=by kernel_rfl
 c80:=by kernel_rfl
 c85:=by kernel_rfl
 c127:=by kernel_rfl
 c143:=by kernel_rfl
 c145:=by kernel_rfl
 c167:=by kernel_rfl
 c168:=by kernel_rfl
 c171:=by kernel_rfl
 c173:=by kernel_rfl
 c175:=by kernel_rfl
 c210:=by kernel_rfl
 c212:=by kernel_rfl
 c213:=by kernel_rfl
 c232:=by kernel_rfl
 c233:=by kernel_rfl }
open Go.RowKit in
theorem Tryz.strconv_ParseInt_10_at64_ok(s:ByteArray)(hmax:s.size<=9223372036854775806)(v:Int)(h:Lib.parseIntB 64 s.data.toList=.ok v)(w:World) :
  zC 148 #[s,(10:Int),(64:Int)] w fun e w'=>e=.returned (.tuple #[v,.nilIface])/\(w'=w\/∃t,w'=Lib.bytesWorld w 5 t):=Any.strconv_ParseInt_10_at64_ok Tryz.laysC174 s hmax v h w
open Go.RowKit in
theorem Tryz.strconv_ParseInt_10_at64_syntax(s:ByteArray)(hlim:s.size<=281474976710656)(h:Lib.parseIntB 64 s.data.toList=.«syntax»)(ev:Value)(w:World)(hv:w.cell? ⟨7,0,none⟩=some ev)(hev:ev=.nilIface\/∃te pe,ev=.iface te pe) :
  zC 148 #[s,(10:Int),(64:Int)] w fun e w'=>∃N,e=.returned (.tuple #[.int .i64 (0),.iface 331 (.pointer (some ⟨N,0,none⟩))])/\w.heap.size<=N/\w'.heap[N]?=some (.cells #[.string ⟨#[80,97,114,115,101,73,110,116]⟩,s,ev] 352 (0,0))/\zB w w':=Any.strconv_ParseInt_10_at64_syntax Tryz.laysC174 s hlim h ev w hv hev
open Go.RowKit in
theorem Tryz.strconv_ParseInt_10_at64_range(s:ByteArray)(hlim:s.size<=281474976710656)(h:Lib.parseIntB 64 s.data.toList=.range)(ev:Value)(w:World)(hv:w.cell? ⟨8,0,none⟩=some ev)(hev:ev=.nilIface\/∃te pe,ev=.iface te pe) :
  zC 148 #[s,(10:Int),(64:Int)] w fun e w'=>∃N,e=.returned (.tuple #[(Lib.intSat 64 s.data.toList),.iface 331 (.pointer (some ⟨N,0,none⟩))])/\w.heap.size<=N/\w'.heap[N]?=some (.cells #[.string ⟨#[80,97,114,115,101,73,110,116]⟩,s,ev] 352 (0,0))/\zB w w':=Any.strconv_ParseInt_10_at64_range Tryz.laysC174 s hlim h ev w hv hev
def Tryz.lays143_ren:Go.Shelf.Ren:=⟨fun|143=>101|219=>146|217=>147|225=>183|224=>184|267=>185|266=>186|314=>211|n=>n,fun|9=>9|3=>3|4=>4|5=>5|46=>22|146=>326|51=>312|n=>n,fun|1=>4|n=>n⟩
theorem Tryz.lays143:Go.Proofs.Lays.n143 Tryz.prog Tryz.lays143_ren:={
 mixed:=by kernel_rfl
 f143:=zK Tryz.func101 (by kernel_rfl)
 f217:=zK Tryz.func147 (by kernel_rfl)
 f219:=zK Tryz.func146 (by kernel_rfl)
 f224:=zK Tryz.func184 (by kernel_rfl)
 f225:=zK Tryz.func183 (by kernel_rfl)
 f266:=zK Tryz.func186 (by kernel_rfl)
 f267:=zK Tryz.func185 (by kernel_rfl)
 f314:=zK Tryz.func211 (by kernel_rfl)
 t3:=Tryz.underlying3
 a3:=Tryz.isAgg3
 z3:=Tryz.sizeOf3
 v3:=Tryz.zeroValue3
 t4:=Tryz.underlying4
 a4:=Tryz.isAgg4
 z4:=Tryz.sizeOf4
 v4:=Tryz.zeroValue4
 t5:=Tryz.underlying5
 a5:=Tryz.isAgg5
 z5:=Tryz.sizeOf5
 v5:=Tryz.zeroValue5
 t9:=Tryz.underlying9
 a9:=Tryz.isAgg9
 z9:=Tryz.sizeOf9
 v9:=Tryz.zeroValue9
 t46:=Tryz.underlying22
 a46:=Tryz.isAgg22
 z46:=Tryz.sizeOf22
 v46:=Tryz.zeroValue22
 t51:=Tryz.underlying312
 a51:=Tryz.isAgg312
 z51:=Tryz.sizeOf312
 v51:=Tryz.zeroValue312
 t146:=Tryz.underlying326
 a146:=Tryz.isAgg326
 z146:=Tryz.sizeOf326
 v146:=Tryz.zeroValue326
 g1:=by kernel_rfl }
open Go.RowKit Go.Lib in
theorem Tryz.strings_Index(s sub:ByteArray)(m:Int)(w:World)(hs:s.size<4294967281)(hm:w.cell? ⟨4,0,none⟩=some (.int .i64 m)) :
  zC 101 #[s,sub] w fun e w'=>e=.returned (.int .i64 (Lib.index s.data.toList sub.data.toList))/\w'=w:=Any.strings_Index Tryz.lays143 s sub m w hs hm
def Tryz.lays145_ren:Go.Shelf.Ren:=⟨fun|145=>73|220=>110|219=>146|217=>147|225=>183|224=>184|267=>185|266=>186|314=>211|n=>n,fun|9=>9|4=>4|59=>153|3=>3|5=>5|46=>22|146=>326|51=>312|n=>n,fun|1=>4|n=>n⟩
theorem Tryz.lays145:Go.Proofs.Lays.n145 Tryz.prog Tryz.lays145_ren:={
 mixed:=by kernel_rfl
 f145:=zK Tryz.func73 (by kernel_rfl)
 f217:=zK Tryz.func147 (by kernel_rfl)
 f219:=zK Tryz.func146 (by kernel_rfl)
 f220:=zK Tryz.func110 (by kernel_rfl)
 f224:=zK Tryz.func184 (by kernel_rfl)
 f225:=zK Tryz.func183 (by kernel_rfl)
 f266:=zK Tryz.func186 (by kernel_rfl)
 f267:=zK Tryz.func185 (by kernel_rfl)
 f314:=zK Tryz.func211 (by kernel_rfl)
 t3:=Tryz.underlying3
 a3:=Tryz.isAgg3
 z3:=Tryz.sizeOf3
 v3:=Tryz.zeroValue3
 t4:=Tryz.underlying4
 a4:=Tryz.isAgg4
 z4:=Tryz.sizeOf4
 v4:=Tryz.zeroValue4
 t5:=Tryz.underlying5
 a5:=Tryz.isAgg5
 z5:=Tryz.sizeOf5
 v5:=Tryz.zeroValue5
 t9:=Tryz.underlying9
 a9:=Tryz.isAgg9
 z9:=Tryz.sizeOf9
 v9:=Tryz.zeroValue9
 t46:=Tryz.underlying22
 a46:=Tryz.isAgg22
 z46:=Tryz.sizeOf22
 v46:=Tryz.zeroValue22
 t51:=Tryz.underlying312
 a51:=Tryz.isAgg312
 z51:=Tryz.sizeOf312
 v51:=Tryz.zeroValue312
 t59:=Tryz.underlying153
 a59:=Tryz.isAgg153
 z59:=Tryz.sizeOf153
 v59:=Tryz.zeroValue153
 t146:=Tryz.underlying326
 a146:=Tryz.isAgg326
 z146:=Tryz.sizeOf326
 v146:=Tryz.zeroValue326
 g1:=by kernel_rfl }
open Go.RowKit Go.Lib in
theorem Tryz.strings_Cut(s sep:ByteArray)(m:Int)(w:World)(hs:s.size<4294967281)(hm:w.cell? ⟨4,0,none⟩=some (.int .i64 m)) :
  zC 73 #[s,sep] w fun e w'=>e=.returned (.tuple #[.string ⟨(Lib.cut s.data.toList sep.data.toList).1.toArray⟩,.string ⟨(Lib.cut s.data.toList sep.data.toList).2.1.toArray⟩,.bool (Lib.cut s.data.toList sep.data.toList).2.2])/\∃n,w'=w.drewN n:=Any.strings_Cut Tryz.lays145 s sep m w hs hm
def Tryz.lays138_ren:Go.Shelf.Ren:=⟨fun|138=>100|195=>143|218=>145|143=>101|219=>146|217=>147|225=>183|224=>184|267=>185|266=>186|314=>211|n=>n,fun|9=>9|3=>3|4=>4|5=>5|0=>0|46=>22|146=>326|51=>312|n=>n,fun|1=>4|n=>n⟩
theorem Tryz.lays138:Go.Proofs.Lays.n138 Tryz.prog Tryz.lays138_ren:={
 mixed:=by kernel_rfl
 f138:=zK Tryz.func100 (by kernel_rfl)
 f143:=zK Tryz.func101 (by kernel_rfl)
 f195:=zK Tryz.func143 (by kernel_rfl)
 f217:=zK Tryz.func147 (by kernel_rfl)
 f218:=zK Tryz.func145 (by kernel_rfl)
 f219:=zK Tryz.func146 (by kernel_rfl)
 f224:=zK Tryz.func184 (by kernel_rfl)
 f225:=zK Tryz.func183 (by kernel_rfl)
 f266:=zK Tryz.func186 (by kernel_rfl)
 f267:=zK Tryz.func185 (by kernel_rfl)
 f314:=zK Tryz.func211 (by kernel_rfl)
 t0:=Tryz.underlying0
 a0:=Tryz.isAgg0
 z0:=Tryz.sizeOf0
 v0:=Tryz.zeroValue0
 t3:=Tryz.underlying3
 a3:=Tryz.isAgg3
 z3:=Tryz.sizeOf3
 v3:=Tryz.zeroValue3
 t4:=Tryz.underlying4
 a4:=Tryz.isAgg4
 z4:=Tryz.sizeOf4
 v4:=Tryz.zeroValue4
 t5:=Tryz.underlying5
 a5:=Tryz.isAgg5
 z5:=Tryz.sizeOf5
 v5:=Tryz.zeroValue5
 t9:=Tryz.underlying9
 a9:=Tryz.isAgg9
 z9:=Tryz.sizeOf9
 v9:=Tryz.zeroValue9
 t46:=Tryz.underlying22
 a46:=Tryz.isAgg22
 z46:=Tryz.sizeOf22
 v46:=Tryz.zeroValue22
 t51:=Tryz.underlying312
 a51:=Tryz.isAgg312
 z51:=Tryz.sizeOf312
 v51:=Tryz.zeroValue312
 t146:=Tryz.underlying326
 a146:=Tryz.isAgg326
 z146:=Tryz.sizeOf326
 v146:=Tryz.zeroValue326
 g1:=by kernel_rfl }
open Go.RowKit Go.Lib in
theorem Tryz.strings_Count_one(s:ByteArray)(c:UInt8)(w:World) :
  zC 100 #[s,.string ⟨#[c]⟩] w fun e w'=>e=.returned (.int .i64 (Lib.countByte s.data.toList c))/\w'=w:=Any.strings_Count_one Tryz.lays138 s c w
end Go.Proofs

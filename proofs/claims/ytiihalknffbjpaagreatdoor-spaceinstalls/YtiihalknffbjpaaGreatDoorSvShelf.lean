/- Contracts of the library's functions at this program, laid by the kit's own tool in plain words: strings.Index, Count, TrimLeft, Cut, Compare, strconv.FormatInt, ParseInt. -/
import Derived.Test.YtiihalknffbjpaaGreatDoorBdRec
import Derived.Shelf.Strconv.Itoa4
import Derived.Shelf.Strconv.ParseIntPublic10
import Derived.Shelf.Strings.Count
import Derived.Shelf.Strings.Cut
import Derived.Shelf.Strings.SlTrimAscii
namespace Go.Proofs.YtiihalknffbjpaaGreatDoor
set_option maxHeartbeats 2000000
set_option maxRecDepth 100000
namespace Bd
open Go.RowKit Go.Maps
def zcS(B s b:Nat)(O:Nat->Prop)(vars:Nat)(room:Int)(r:List Nd × Int)(w:World)(e:Ending)(w':World):Prop :=
 e=.returned (.tuple #[.int .i64 r.2,.nilIface])/\∃O',zag B w' s b O' vars room r.1/\za3 O O' w w'
structure ztZ(B:Nat)(w:World)(vars:Nat)(room:Int)(ns:List Nd):Prop where
 r:room<=4000
 l:((cnt ns+2^vars:Nat):Int)<=room+1
 n:ns.length+2^vars<=90000
 v:vars<=12
 hB:B<=w.heap.size
section
variable {B s b:Nat} {O:Nat->Prop} {F:FuncId} {op:Bool} {vars:Nat} {room:Int} {ns:List Nd} {w w':World}
theorem ztZ.new(h:ztZ B w vars room ns)(hb:w.heap.size<=w'.heap.size):ztZ B w' vars room ns:=⟨h.r,h.l,h.n,h.v,Nat.le_trans h.hB hb⟩
theorem zxB{vars:Nat}(h:vars<=12):2^vars<=4096:=Nat.pow_le_pow_right (by omega) h
theorem zxM(w:World)(k:Nd)(hk:k.Ok)(t:TypeId):zeh (w.alloc (.cells #[.int .i64 k.v,.int .i64 k.l,.int .i64 k.h] t)) w.heap.size [k.v,k.l,k.h]:=by
 obtain⟨x0,x1,x2,-⟩:=zed w (.int .i64 k.v) (.int .i64 k.l) (.int .i64 k.h) t;refine⟨by simp,fun i hi=>?_,fun z hz=>?_⟩
 ·simp at hi;obtain rfl|rfl|rfl:i=0\/i=1\/i=2:=by omega
  ·exact x0
  ·exact x1
  ·exact x2
 ·simp at hz;rcases hz with rfl|rfl|rfl
  ·exact hk.1
  ·exact hk.2.1
  ·exact hk.2.2
theorem zkJ{O':Nat->Prop}{dm:Nat}{w1:World}(hb:zB w w1)(hd:w.heap.size<=dm)(h:MM O O' dm w1 w'):za3 O O' w w' :=
 ⟨(zah.of_below hb _).andThen h.kept (fun i hi hlt=>hi.elim id (fun e=>by omega)),fun k hk=>by
  rcases h.own k hk with h1|h1
  ·exact .inl h1
  ·exact .inr (Nat.le_trans hb.size h1),fun k hk=>by
  rcases h.map k hk with h1|⟨h1,h2⟩
  ·exact .inl h1
  ·exact .inr ⟨h1,fun c=>h2 (c.below hb)⟩⟩
theorem zjl(hF:znV F op)(h:zag B w s b O vars room ns)(hg:zcq vars ns)(hR:ztZ B w vars room ns)(k:Nd)(h3:zhY ns k) :
  zC 286 #[.pointer (some ⟨s,0,none⟩),.func (.func F) #[] #[],k.val] w (zcS B s b O vars room (zkp op ns k) w):=by
 have hone:=Nat.one_le_two_pow (n:=vars);have hr4:=hR.r;have hrl:=hR.l;have hrn:=hR.n;have p12:=zxB hR.v;have hok:=zt6 h3 (by omega);have hp:=zrm (vars:=vars) hg.ranked k;have hm0:=(zdI hg.ranked k).1;have hpr:=zgL (cp:=3) (h.new (below_new w (.cells #[.int .i64 k.v,.int .i64 k.l,.int .i64 k.h] 412))) (by omega) w.heap.size [k.v,k.l,k.h] (zxM w k hok _) (by simp) (fun x hx=>by
  simp at hx;rcases hx with rfl|rfl|rfl
  ·exact h3.a
  ·exact h3.b
  ·exact h3.c)
 rw[show [k.v,k.l,k.h].length=3 from rfl] at hpr;have HP:=zH hpr;have HBG:Hid (∀W,zB w W->zC 325 #[.pointer (some ⟨s,0,none⟩),.func (.func F) #[] #[]] W fun e w'=>∃wk dm,e=.returned (.pointer (some ⟨wk,0,none⟩))/\W.heap.size<=dm/\WS B w' s b wk dm O F op vars room ns []/\zB W w'):=fun W hW=>by
  have hs:=hW.size;have hsl:=h.slt;refine(zpB s F W B (Nat.le_trans hR.hB hs)).mono fun e w' ⟨he,hwk,hb⟩=>⟨_,_,he,Nat.le_refl _,?_,hb⟩;have hSW:=(h.new hW).new hb;exact⟨hSW,hwk,hg,zfZ op ns,fun ho=>by have:=(h.own _ ho).2;omega,fun ho=>by have:=(h.own _ ho).2;omega,by omega,Nat.le_trans hR.hB (Nat.le_trans hs hb.size)⟩
 have HMK:Hid (∀wk dm W,WS B W s b wk dm O F op vars room ns []->zC 326 #[.pointer (some ⟨wk,0,none⟩),k.val] W fun e w'=>e=.returned (.tuple #[.int .i64 (zak 24 op ns [] k).2.2,.nilIface])/\∃O',WS B w' s b wk dm O' F op vars room (zak 24 op ns [] k).1 (zak 24 op ns [] k).2.1/\MM O O' dm W w'):=fun wk dm W hW =>
  zjw hr4 hF 24 ns [] k O W hW h3 (by omega) (by omega) (by omega) (by simp;omega)
 have hb:=below_new w (.cells #[.int .i64 k.v,.int .i64 k.l,.int .i64 k.h] 412);obtain⟨x0,x1,x2,-⟩:=zed w (.int .i64 k.v) (.int .i64 k.l) (.int .i64 k.h) 412;have bl:w.heap.size<(w.alloc (.cells #[.int .i64 k.v,.int .i64 k.l,.int .i64 k.h] 412)).heap.size:=by simp
 unfold zkp;generalize zak 24 op ns [] k=r at *;unfold Nd.val at HMK ⊢;have OO:Hid (∀j,O j->j<w.heap.size):=fun j ho=>(h.own j ho).2;clear hpr h hg hR h3 hok hp hF;go_enter Tryz.func286,Tryz.ntmps286;go_wp2_with fail;refine HP.out.mono ?_;rintro e w1 ⟨rfl,rfl⟩;clear HP;have HB:=zH hb;clear hb;go_wp2_with fail;generalize (w.alloc (.cells #[.int .i64 k.v,.int .i64 k.l,.int .i64 k.h] 412))=W1 at *;have f0:W1.drew.cell? ⟨w.heap.size,0,none⟩=some (.int .i64 k.v):=x0;have f1:W1.drew.cell? ⟨w.heap.size,1,none⟩=some (.int .i64 k.l):=x1;have f2:W1.drew.cell? ⟨w.heap.size,2,none⟩=some (.int .i64 k.h):=x2;have bl':w.heap.size<W1.drew.heap.size:=bl;have HBX:Hid (∀w2,Below W1.drew.heap.size W1.drew w2->zB w w2):=fun w2 hb2=>HB.out.drew.trans (hb2.mono HB.out.size);have SKL:Hid (∀w2 w3 O' dm,Below W1.drew.heap.size W1.drew w2->W1.drew.heap.size<=dm->MM O O' dm w2 w3->w3.cell? ⟨w.heap.size,0,none⟩=some (.int .i64 k.v)/\w3.cell? ⟨w.heap.size,1,none⟩=some (.int .i64 k.l)/\w3.cell? ⟨w.heap.size,2,none⟩=some (.int .i64 k.h)):=fun w2 w3 O' dm hb2 hdm mm=>by
  have h2:w.heap.size<w2.heap.size:=Nat.lt_of_lt_of_le bl' hb2.size;have ho:¬O w.heap.size:=fun h=>by have:=OO.out _ h;omega
  have hd:w.heap.size≠dm:=by omega
  exact⟨(mm.cell (a:=⟨w.heap.size,0,none⟩) h2 ho hd).trans ((hb2.cell (p:=⟨w.heap.size,0,none⟩) bl').trans f0),(mm.cell (a:=⟨w.heap.size,1,none⟩) h2 ho hd).trans ((hb2.cell (p:=⟨w.heap.size,1,none⟩) bl').trans f1),(mm.cell (a:=⟨w.heap.size,2,none⟩) h2 ho hd).trans ((hb2.cell (p:=⟨w.heap.size,2,none⟩) bl').trans f2)⟩
 go_cut [6,7] (fun a c wx=>a=.int .i64 r.2.2/\c=.nilIface/\∃O',zag B wx s b O' vars room r.1/\za3 O O' w wx)
 case first =>
  go_region_held3 (fun X=>X.cell? ⟨w.heap.size,0,none⟩=some (.int .i64 k.v)/\X.cell? ⟨w.heap.size,1,none⟩=some (.int .i64 k.l)/\X.cell? ⟨w.heap.size,2,none⟩=some (.int .i64 k.h)) (first|exact⟨f0,f1,f2⟩|exact⟨(hb2.cell (p:=⟨w.heap.size,0,none⟩) bl').trans f0,(hb2.cell (p:=⟨w.heap.size,1,none⟩) bl').trans f1,(hb2.cell (p:=⟨w.heap.size,2,none⟩) bl').trans f2⟩|exact SK)
   (first
    |(go_at_call 325;with_reducible refine(HBG.out _ HB.out.drew).mono ?_;rintro e w2 ⟨wk,dm,rfl,hdm,hws,hb2⟩)
    | (go_at_call 326;with_reducible refine (HMK.out _ _ _ hws).mono ?_;rintro e w3 ⟨rfl,O',hw3,mm3⟩;have hb3:=HBX.out _ hb2;have SK:=SKL.out _ _ _ _ hb2 hdm mm3))
  all_goals
   go_wp2_with fail;go_meet
   case rel=>exact⟨rfl,rfl,O',hw3.space,zkJ hb3 (by omega) mm3⟩
 case rest =>obtain⟨rfl,rfl,hO⟩:=hcut;go_wp2;go_ret2;exact⟨rfl,hO⟩
theorem ztf(x y:Int)(w:World):zR 288 #[.int .i64 x,.int .i64 y] w (.agg #[.int .i64 x,.int .i64 y,.int .i64 0]):=by
 have hb:=below_new w (.cells #[.int .i64 x,.int .i64 y,.int .i64 0] 412);go_enter Tryz.func288,Tryz.ntmps288;go_wp2;exact bodyPost_ret (v:=.agg #[.int .i64 x,.int .i64 y,.int .i64 0]) (by simp[results,Tryz.results288,go_sem]) rfl ⟨rfl,hb⟩
theorem znJ(x y:Int)(w:World):zR 324 #[.int .i64 x,.int .i64 y] w (.agg #[.int .i64 x,.int .i64 1,.int .i64 y]):=by
 have hb:=below_new w (.cells #[.int .i64 x,.int .i64 1,.int .i64 y] 412);go_enter Tryz.func324,Tryz.ntmps324;go_wp2;exact bodyPost_ret (v:=.agg #[.int .i64 x,.int .i64 1,.int .i64 y]) (by simp[results,Tryz.results324,go_sem]) rfl ⟨rfl,hb⟩
theorem zcS.later{r:List Nd × Int}{w1:World}{e:Ending}(hb:zB w w1)(h:zcS B s b O vars room r w1 e w'):zcS B s b O vars room r w e w':=by
 obtain⟨he,O',hS,hM⟩:=h;exact⟨he,O',hS,(za3.of_below O hb).trans hM⟩
theorem zwH(h:zag B w s b O vars room ns)(hg:zcq vars ns)(hR:ztZ B w vars room ns)(x y:Int)(h1:zaP ns x=true)(h2:zaP ns y=true) :
  zC 225 #[.pointer (some ⟨s,0,none⟩),.int .i64 x,.int .i64 y] w (zcS B s b O vars room (zkp true ns ⟨x,y,0⟩) w):=by
 have HC:Hid (∀W,zB w W->zC 286 #[.pointer (some ⟨s,0,none⟩),.func (.func 287) #[] #[],.agg #[.int .i64 x,.int .i64 y,.int .i64 0]] W (zcS B s b O vars room (zkp true ns ⟨x,y,0⟩) W)):=fun W hW =>
  zjl zi9 (h.new hW) hg (hR.new hW.size) ⟨x,y,0⟩ ⟨h1,h2,zce ns⟩
 generalize zkp true ns ⟨x,y,0⟩=r at *;clear h hg hR h1 h2;go_enter Tryz.func225,Tryz.ntmps225;go_wp2_with fail;refine(ztf x y w).mono ?_;rintro e w1 ⟨rfl,hb1⟩;have HC':=zH (HC.out w1 hb1);clear HC;go_wp2_with fail;refine HC'.out.mono ?_;rintro e w' ⟨rfl,hO⟩;go_wp2;go_ret2;exact zcS.later hb1 ⟨rfl,hO⟩
theorem zxA(h:zag B w s b O vars room ns)(hg:zcq vars ns)(hR:ztZ B w vars room ns)(x y:Int)(h1:zaP ns x=true)(h2:zaP ns y=true) :
  zC 285 #[.pointer (some ⟨s,0,none⟩),.int .i64 x,.int .i64 y] w (zcS B s b O vars room (zkp true ns ⟨x,1,y⟩) w):=by
 have HC:Hid (∀W,zB w W->zC 286 #[.pointer (some ⟨s,0,none⟩),.func (.func 287) #[] #[],.agg #[.int .i64 x,.int .i64 1,.int .i64 y]] W (zcS B s b O vars room (zkp true ns ⟨x,1,y⟩) W)):=fun W hW =>
  zjl zi9 (h.new hW) hg (hR.new hW.size) ⟨x,1,y⟩ ⟨h1,zbh ns,h2⟩
 generalize zkp true ns ⟨x,1,y⟩=r at *;clear h hg hR h1 h2;go_enter Tryz.func285,Tryz.ntmps285;go_wp2_with fail;refine(znJ x y w).mono ?_;rintro e w1 ⟨rfl,hb1⟩;have HC':=zH (HC.out w1 hb1);clear HC;go_wp2_with fail;refine HC'.out.mono ?_;rintro e w' ⟨rfl,hO⟩;go_wp2;go_ret2;exact zcS.later hb1 ⟨rfl,hO⟩
theorem zwV(h:zag B w s b O vars room ns)(hR:ztZ B w vars room ns)(v:Int)(is:Bool)(hv0:0<=v)(hv:v<(vars:Int)) :
  zC 284 #[.pointer (some ⟨s,0,none⟩),.int .i64 v,.bool is] w (zcS B s b O vars room (zkq ns v is) w):=by
 have h1:1<=vars:=by omega
 have h2:2<=2^vars:=by
  obtain⟨q,rfl⟩:∃q,vars=q+1:=⟨vars-1,by omega⟩;have:=Nat.one_le_two_pow (n:=q);rw[Nat.pow_succ];omega
 have hr4:=hR.r;have hrl:=hR.l;have hrn:=hR.n;have hv12:=hR.v;have HV:=zH (zj6 h v hv0 hv);unfold zkq;cases is with
 |true =>rw[if_pos rfl];have HN:=zH (ziu h (by omega) (by omega) hR.hB v 0 1 hv0 (by omega) (zce ns) (zbh ns) (by rw[zd6];omega) (by rw[zdg];omega));generalize zcE ns v 0 1=r at *;clear h hR;go_enter Tryz.func284,Tryz.ntmps284;go_wp2_with fail;refine HV.out.mono ?_;rintro e w1 ⟨rfl,rfl⟩;go_wp2_with fail;refine HN.out.mono ?_;rintro e w' ⟨rfl,hO⟩;go_wp2;go_ret2;exact⟨rfl,hO⟩
 |false =>rw[if_neg (by simp)];have HN:=zH (ziu h (by omega) (by omega) hR.hB v 1 0 hv0 (by omega) (zbh ns) (zce ns) (by rw[zdg];omega) (by rw[zd6];omega));generalize zcE ns v 1 0=r at *;clear h hR;go_enter Tryz.func284,Tryz.ntmps284;go_wp2_with fail;refine HV.out.mono ?_;rintro e w1 ⟨rfl,rfl⟩;go_wp2_with fail;refine HN.out.mono ?_;rintro e w' ⟨rfl,hO⟩;go_wp2;go_ret2;exact⟨rfl,hO⟩
end
end Bd
namespace Bd
open Go.RowKit Go.Maps
theorem zwk:Keyed Tryz.prog 3:=int_keyed Tryz.underlying3
theorem zvf{x:Int}(h:I64 x):keyOf Tryz.prog 3 (.int .i64 x)=some (.int .i64 x):=keyOf_int_mk Tryz.underlying3 (zuv h)
end Bd
namespace Bd
open Go.RowKit Go.Maps
theorem zfA{ns:List Nd}{x:Int}(e:zaa ns x≠24):zas ns x=nd ns (pl x):=by unfold zas;rw[if_neg e];rfl
end Bd
namespace Bd
open Go.RowKit Go.Maps
theorem zxQ(w:World)(x:Int)(hx:I64 x):zeh (w.alloc (.cells #[.int .i64 x] 3)) w.heap.size [x] :=
 ⟨by simp,fun i hi=>by
  obtain rfl:i=0:=by simp at hi;omega
  simp,fun z hz=>by rw [List.mem_singleton] at hz;subst hz;exact hx⟩
end Bd
namespace Bd
open Go.RowKit Go.Maps
section
variable {B s b:Nat} {O:Nat->Prop} {vars:Nat} {room:Int} {ns:List Nd} {w w':World}
theorem zta(vars:Nat)(hv:vars<=24)(room:Int)(h0:0<=room)(h1:room<=4000)(w:World)(B:Nat)(hB:B<=w.heap.size) :
  zC 74 #[.int .i64 vars,.int .i64 room] w fun e w'=>∃s b O,e=.returned (.tuple #[.pointer (some ⟨s,0,none⟩),.nilIface])/\zag B w' s b O vars room []/\w.heap.size<=s/\(∀k,O k->w.heap.size<=k)/\zB w w':=by
 have HN:=zH (zly room h0 h1 w w.heap.size zN);go_enter Tryz.func74,Tryz.ntmps74;go_wp2_with fail;refine HN.out.mono ?_;rintro e w1 ⟨rfl,hA1,hb1⟩;have hs:=hb1.size;have hO:=(fun k (h:Own (w.heap.size + 1) w.heap.size (.slice none 0 0) k)=>(show w.heap.size<=k/\k<w1.heap.size from by
  obtain⟨D,hD,-⟩:=hA1.hmap;have hbm:=hD.lt;have hlt:=hA1.lt;rcases h with h|h|h
  ·omega
  ·omega
  ·simp [Value.ownBlock] at h))
 have hb2:=hb1.alloc hs (.cells #[.pointer (some ⟨w.heap.size+1,0,none⟩),.int .i64 vars] 159);have hA2:=hA1.kept (zah.alloc (fun _=>False) w1 (.cells #[.pointer (some ⟨w.heap.size+1,0,none⟩),.int .i64 vars] 159)) (fun _ _ h=>h);have hfin:zag B (w1.alloc (.cells #[.pointer (some ⟨w.heap.size+1,0,none⟩),.int .i64 vars] 159)) w1.heap.size (w.heap.size+1) (Own (w.heap.size+1) w.heap.size (.slice none 0 0)) vars room []:=by
  have hA3:zan B (w1.alloc (.cells #[.pointer (some ⟨w.heap.size+1,0,none⟩),.int .i64 vars] 159)) (w.heap.size+1) w.heap.size (.slice none 0 0) [] [] room 2 :=
   ⟨hA2.lt,hA2.croom,hA2.cnodes,hA2.cmap,hA2.cnext,hA2.froz,ownsRow_base hA2.row hB,hA2.hmap,hA2.d1,hA2.d2,hA2.d3,by omega,hB⟩
  refine⟨⟨_,_,[],2,hA3,⟨fun p h=>by simp at h,fun j h=>by simp at h,by simp,fun j h=>by simp at h⟩,⟨0,rfl,by simp,fun j h=>by omega⟩,fun _ h=>h⟩,fun k hk=>⟨by have:=(hO k hk).1;omega,by have:=(hO k hk).2;simp;omega⟩,fun ho=>by have:=(hO _ ho).2;omega,by simp,by simp,by simp⟩
 have HF:=zH hfin;have HB2:=zH hb2;have HO:=zH hO;clear HN hA1 hA2 hfin hb2 hO;go_wp2;go_ret2;exact⟨_,_,_,rfl,HF.out,hs,fun k hk=>(HO.out k hk).1,HB2.out⟩
theorem zgk(h:zag B w s b O vars room ns):zC 16 #[.pointer (some ⟨s,0,none⟩)] w fun e w'=>e=.returned (.int .i64 vars)/\w=w':=by
 have c1:=h.c1;clear h;go_enter Tryz.func16,Tryz.ntmps16;go_wp2;go_ret;exact⟨rfl,rfl⟩
theorem zvH(h:zag B w s b O vars room ns)(hr:zaF ns)(hl:ns.length<=90000)(hB:B<=w.heap.size)(bf:Nat){cp:Nat}(fs:List Int)(hF:zeh w bf fs)(hfl:fs.length<=1000) :
  zC 161 #[.pointer (some ⟨s,0,none⟩),.slice (some ⟨bf,0,none⟩) fs.length cp] w fun e w'=>∃n:Int,e=.returned (.int .i64 n)/\∃O',zag B w' s b O' vars room (zbD ns (zaw ns fs))/\za3 O O' w w':=by
 have c0:=h.c0;have HC:=zH (zvO (cp:=cp) h hr hl hB bf fs hF hfl);generalize fs.length=n at *;clear h hF hr;go_enter Tryz.func161,Tryz.ntmps161;go_wp2_with fail;refine HC.out.mono ?_;rintro e w1 ⟨n,rfl,hO⟩;go_wp2;go_ret;exact⟨n,rfl,hO⟩
end
end Bd
namespace Bd
open Go.RowKit Go.Maps
section
variable {B s b:Nat} {O:Nat->Prop} {vars:Nat} {room:Int} {ns:List Nd} {w w':World}
theorem zxU(h:zag B w s b O vars room ns):zC 223 #[.pointer (some ⟨b,0,none⟩)] w fun e w'=>e=.returned (.int .i64 ((zlx ns).length:Int))/\w=w':=by
 obtain⟨bm,v,L,next,hA,hBk,-,hO⟩:=h.arena;rw[<-zgg hBk];exact zh3 hA
end
end Bd
section
open Go.RowKit
theorem zwt(F:Nat)(cb:Array Value)(p:List Int->Bool)(xs:List (List Int))(a:Option Addr)(cap:Nat)(w:World)(hm:xs.length<=9223372036854775807)
  (hent:∀args w,(callFunc F args).run Tryz.prog w=.ok (.enter F args) w) (hI:zeD w a xs)
  (hf:∀W i (a':Option Addr) (cap':Nat),zB w W->i<xs.length->cap'<=9223372036854775807->(xs.getD i []).length<=cap'->zbu W a' (xs.getD i [])->zR F (#[.slice a' (xs.getD i []).length cap']++cb) W (.bool (p (xs.getD i [])))) :
  zR 178 #[.slice a xs.length cap,.func (.func F) #[] cb] w (.int .i64 (zru p xs)):=by
 have HF:=zH hf;have HI:=zH hI;clear hf hI;go_enter Tryz.func178,Tryz.ntmps178;go_wp2_with fail;go_loopw [8] (fun kV wr=>∃k:Nat,k<=xs.length/\kV=.int .i64 k/\(∀j,j<k->p (xs.getD j [])=false)/\zB w wr) (fun kV _=>xs.length-(intOf kV).toNat)
 case atStart=>exact⟨0,Nat.zero_le _,rfl,fun j h=>by omega,Below.refl _ _⟩
 case round =>
  obtain⟨k,hk,rfl,h1,hbr⟩:=hrel;have H1:=zH h1;have HBR:=zH hbr;clear h1 hbr
  by_cases hlt:k<xs.length
  ·obtain⟨ad,a',cap',rfl,hl,hc,g1,g2,g3⟩:=HI.out.below HBR.out k hlt;have HC:=zH (HF.out wr k a' cap' HBR.out hlt g2 g1 g3);clear g3 g1 g2;cases hp:p (xs.getD k []) with
   |true =>rw[hp] at HC;have HP:=zH hp;clear hp;generalize hx:xs.getD k []=x at *;have HX:=zH hx;clear hx;go_wp2_with fail;refine HC.out.mono ?_;rintro e w1 ⟨rfl,hb1⟩;have HB1:Hid (zB w w1):=zT HBR.out hb1;clear hb1 HC;go_wp2;go_ret;exact⟨by rw[zmH H1.out hlt (by rw[HX.out];exact HP.out)];rfl,HB1.out⟩
   |false =>
    rw[hp] at HC;have HP:=zH hp;clear hp;generalize hx:xs.getD k []=x at *;have HX:=zH hx;clear hx;go_wp2_with fail;refine HC.out.mono ?_;rintro e w1 ⟨rfl,hb1⟩;have HB1:Hid (zB w w1):=zT HBR.out hb1;clear hb1 HC;go_wp2;go_roundw
    case rel=>exact ⟨k + 1,hlt,by go_num,fun j hj=>(by
     rcases Nat.lt_succ_iff_lt_or_eq.1 hj with e|e
     ·exact H1.out j e
     ·rw [e,HX.out];exact HP.out),HB1.out⟩
    case measure=>simp[intOf];omega
  ·obtain rfl:k=xs.length:=by omega
   go_wp2;go_ret;exact⟨by rw[zjW H1.out];rfl,HBR.out⟩
theorem zw9(F:Nat)(cb:Array Value)(p:List Int->Bool)(xs:List (List Int))(a:Option Addr)(cap:Nat)(w:World)(hm:xs.length<=9223372036854775807)
  (hent:∀args w,(callFunc F args).run Tryz.prog w=.ok (.enter F args) w) (hI:zeD w a xs)
  (hf:∀W i (a':Option Addr) (cap':Nat),zB w W->i<xs.length->cap'<=9223372036854775807->(xs.getD i []).length<=cap'->zbu W a' (xs.getD i [])->zR F (#[.slice a' (xs.getD i []).length cap']++cb) W (.bool (p (xs.getD i [])))) :
  zR 102 #[.slice a xs.length cap,.func (.func F) #[] cb] w (.bool (xs.any p)):=by
 have H:=zH (zwt F cb p xs a cap w hm hent hI hf);clear hf hI hent;rw[<-zlQ];generalize zru p xs=i at *;go_enter Tryz.func102,Tryz.ntmps102;go_wp2_with fail;refine H.out.mono ?_;rintro e w1 ⟨rfl,hb1⟩;have HB1:=zH hb1;clear hb1 H;go_wp2;go_ret;exact⟨by first|rfl|simp,HB1.out⟩
end
section
open Go.RowKit
def zkn(vals:Nat)(l:List (List Int)):Bool:=l.all (zhj vals)
theorem zvx(vals:Nat)(l:List (List Int)):zkn vals l=!(l.any fun c=>!zhj vals c):=by
 unfold zkn;rw[List.all_eq_not_any_not]
end
namespace Bd
open Go.RowKit Go.Maps Go.Deep
theorem zhu(x:Int)(hx:zi0 24 x=true)(w:World):zC 222 #[.int .i64 x] w fun e w'=>e=.returned (.int .i64 (zcW x))/\w=w':=by
 have h0:=zbA.1 hx;have hm:max x (-x)-1=(zcW x:Int):=by unfold zcW;omega
 have h1:-9223372036854775808<=max x (-x)-1:=by omega
 have h2:max x (-x)-1<=9223372036854775807:=by omega
 have h3:-9223372036854775808<=-x:=by omega
 have h4:-x<=9223372036854775807:=by omega
 clear hx;go_enter Tryz.func222,Tryz.ntmps222;go_wp2;go_ret;refine⟨?_,rfl⟩;rw[<-hm]
 first|rfl|(congr 2;omega)|go_num
theorem zqg(x:Int)(vars:Nat)(h24:vars<=24)(hx:zi0 vars x=true)(b:Nat)(w:World)(hc:w.cell? ⟨b,0,none⟩=some (.int .i64 vars)) :
  zR 221 #[.int .i64 x,.pointer (some ⟨b,0,none⟩)] w (.bool false):=by
 have HV:=zH (zhu x (zgE (by omega) hx) w);have hv:=zfs hx;clear hx;generalize zcW x=v at *;have h1:¬(v:Int)<0:=by omega
 have h2:¬(vars:Int)<=(v:Int):=by omega
 go_enter Tryz.func221,Tryz.ntmps221;go_wp2_with fail;refine HV.out.mono ?_;rintro e w1 ⟨rfl,rfl⟩;go_wp2;go_ret;exact⟨by simp;exact hv,Below.refl _ _⟩
theorem zkX:∀args w,(callFunc 221 args).run Tryz.prog w=.ok (.enter 221 args) w:=by intro args w;kernel_rfl
theorem zi8:∀args w,(callFunc 157 args).run Tryz.prog w=.ok (.enter 157 args) w:=by intro args w;kernel_rfl
theorem zr3(c:List Int)(vars:Nat)(h24:vars<=24)(hl:zfS vars c)(a:Option Addr)(cap:Nat)(w:World)(hI:zbu w a c)(hm:c.length<=9223372036854775807) :
  zR 158 #[.slice a c.length cap,.int .i64 vars] w (.bool true):=by
 have hb:=Go.Proofs.YtiihalknffbjpaaGreatDoor.below_new w (.cells #[.int .i64 vars] 3);have HC:=zH (zvz 221 #[.pointer (some ⟨w.heap.size,0,none⟩)] (fun _=>false) c a cap (w.alloc (.cells #[.int .i64 vars] 3)) hm zkX (hI.below hb) (fun W i hW hi=>zqg (c.getD i 0) vars h24 (hl _ (zbL hi)) w.heap.size W ((hW.cell (p:=⟨w.heap.size,0,none⟩) (by simp)).trans (by simp))));have HB:=zH hb;have hf:(c.any fun _=>false)=false:=by simp
 rw[hf] at HC;clear hb hI hl hf;go_enter Tryz.func158,Tryz.ntmps158;go_wp2_with fail;refine HC.out.mono ?_;rintro e w1 ⟨rfl,hb1⟩;have HB1:Hid (zB w w1):=zT HB.out hb1;clear hb1 HC;go_wp2;go_ret;exact⟨by first|rfl|simp,HB1.out⟩
section
variable {B s b:Nat} {O:Nat->Prop} {vars:Nat} {room:Int} {ns:List Nd} {w:World}
theorem zn3(hS:zag B w s b O vars room ns)(h24:vars<=24)(c:List Int)(hl:zfS vars c)(a:Option Addr)(cap:Nat)(hI:zbu w a c)(hm:c.length<=9223372036854775807)(bx:Nat)(hc:w.cell? ⟨bx,0,none⟩=some (.pointer (some ⟨s,0,none⟩))) :
  zR 157 #[.slice a c.length cap,.pointer (some ⟨bx,0,none⟩)] w (.bool false):=by
 have HV:=zH (zgk hS);have HW:=zH (zr3 c vars h24 hl a cap w hI hm);clear hS hI hl;go_enter Tryz.func157,Tryz.ntmps157;go_wp2_with fail;refine HV.out.mono ?_;rintro e w1 ⟨rfl,rfl⟩;clear HV;go_wp2_with fail;refine HW.out.mono ?_;rintro e w1 ⟨rfl,hb1⟩;have HB1:=zH hb1;clear HW hb1;go_wp2;go_ret;exact⟨by first|rfl|simp,HB1.out⟩
theorem zmq(hS:zag B w s b O vars room ns):zC 156 #[.pointer (some ⟨s,0,none⟩)] w fun e w'=>e=.returned (.bool false)/\w=w':=by
 have c0:=hS.c0;clear hS;go_enter Tryz.func156,Tryz.ntmps156;go_wp2;go_ret;exact⟨by first|rfl|simp,rfl⟩
theorem zxq(hS:zag B w s b O vars room ns)(h0:cnt ns=0):zC 159 #[.pointer (some ⟨s,0,none⟩)] w fun e w'=>e=.returned (.slice none 0 0)/\w=w':=by
 have HL:=zxU hS;rw[zjE,h0] at HL;have HL:=zH HL;have c0:=hS.c0;clear hS h0;go_enter Tryz.func159,Tryz.ntmps159;go_wp2_with fail;go_loopw [3,4] (fun o _ wr=>o=.slice none 0 0/\wr=w) (fun _ _ _=>0)
 case atStart=>exact⟨rfl,rfl⟩
 case round =>obtain⟨rfl,rfl⟩:=hrel;go_wp2_with fail;refine HL.out.mono ?_;rintro e w1 ⟨rfl,rfl⟩;go_wp2;go_ret;exact⟨rfl,rfl⟩
end
end Bd
namespace Go.Proofs
open Go.Shelf
def Tryz.lays161_ren:Go.Shelf.Ren:=⟨fun|161=>188|231=>251|227=>252|233=>253|235=>254|228=>300|197=>257|151=>301|260=>302|152=>330|137=>204|119=>352|224=>314|225=>313|217=>269|266=>310|n=>n,fun|9=>9|4=>4|3=>3|5=>5|117=>382|116=>381|0=>0|124=>385|105=>387|21=>21|119=>444|46=>48|139=>447|138=>446|n=>n,fun|3=>6|4=>7|n=>n⟩
theorem Tryz.lays161:Go.Proofs.Lays.n161 Tryz.prog Tryz.lays161_ren:={
 zdx:=by kernel_rfl
 f119:=zK Tryz.func352 (by kernel_rfl)
 f137:=zK Tryz.func204 (by kernel_rfl)
 f151:=zK Tryz.func301 (by kernel_rfl)
 f152:=zK Tryz.func330 (by kernel_rfl)
 f161:=zK Tryz.func188 (by kernel_rfl)
 f197:=zK Tryz.func257 (by kernel_rfl)
 f217:=zK Tryz.func269 (by kernel_rfl)
 f224:=zK Tryz.func314 (by kernel_rfl)
 f225:=zK Tryz.func313 (by kernel_rfl)
 f227:=zK Tryz.func252 (by kernel_rfl)
 f228:=zK Tryz.func300 (by kernel_rfl)
 f231:=zK Tryz.func251 (by kernel_rfl)
 f233:=zK Tryz.func253 (by kernel_rfl)
 f235:=zK Tryz.func254 (by kernel_rfl)
 f260:=zK Tryz.func302 (by kernel_rfl)
 f266:=zK Tryz.func310 (by kernel_rfl)
 t0:=Tryz.underlying0
 a0:=Tryz.isAgg0
 z0:=Tryz.sizeOf0
 v0:=Tryz.zeroValue0
 t3:=Tryz.underlying3
 a3:=Tryz.isAgg3
 z3:=Tryz.sizeOf3
 v3:=Tryz.zeroValue3
 t4:=Tryz.underlying4
 a4:=Tryz.isAgg4
 z4:=Tryz.sizeOf4
 v4:=Tryz.zeroValue4
 t5:=Tryz.underlying5
 a5:=Tryz.isAgg5
 z5:=Tryz.sizeOf5
 v5:=Tryz.zeroValue5
 t9:=Tryz.underlying9
 a9:=Tryz.isAgg9
 z9:=Tryz.sizeOf9
 v9:=Tryz.zeroValue9
 t21:=Tryz.underlying21
 a21:=Tryz.isAgg21
 z21:=Tryz.sizeOf21
 v21:=Tryz.zeroValue21
 t46:=Tryz.underlying48
 a46:=Tryz.isAgg48
 z46:=Tryz.sizeOf48
 v46:=Tryz.zeroValue48
 t105:=Tryz.underlying387
 a105:=Tryz.isAgg387
 z105:=Tryz.sizeOf387
 v105:=Tryz.zeroValue387
 t116:=Tryz.underlying381
 a116:=Tryz.isAgg381
 z116:=Tryz.sizeOf381
 t117:=Tryz.underlying382
 a117:=Tryz.isAgg382
 z117:=Tryz.sizeOf382
 v117:=Tryz.zeroValue382
 t119:=Tryz.underlying444
 a119:=Tryz.isAgg444
 z119:=Tryz.sizeOf444
 t124:=Tryz.underlying385
 a124:=Tryz.isAgg385
 z124:=Tryz.sizeOf385
 v124:=Tryz.zeroValue385
 t138:=Tryz.underlying446
 a138:=Tryz.isAgg446
 z138:=Tryz.sizeOf446
 v138:=Tryz.zeroValue446
 t139:=Tryz.underlying447
 a139:=Tryz.isAgg447
 z139:=Tryz.sizeOf447
 v139:=Tryz.zeroValue447
 g3:=by kernel_rfl
 g4:=by kernel_rfl }
def Tryz.lays106_ren:Go.Shelf.Ren:=⟨fun|106=>268|213=>309|265=>343|n=>n,fun|9=>9|3=>3|n=>n,fun|n=>n⟩
theorem Tryz.lays106:Go.Proofs.Lays.n106 Tryz.prog Tryz.lays106_ren:={
 zdx:=by kernel_rfl
 f106:=zK Tryz.func268 (by kernel_rfl)
 f213:=zK Tryz.func309 (by kernel_rfl)
 f265:=zK Tryz.func343 (by kernel_rfl)
 t3:=Tryz.underlying3
 a3:=Tryz.isAgg3
 z3:=Tryz.sizeOf3
 v3:=Tryz.zeroValue3
 t9:=Tryz.underlying9
 a9:=Tryz.isAgg9
 z9:=Tryz.sizeOf9
 v9:=Tryz.zeroValue9 }
open Go.RowKit in
theorem Tryz.strings_Compare(a b:ByteArray)(w:World) :
  zC 268 #[.string a,.string b] w fun e w'=>e=.returned (.int .i64 (Lib.compareBytes a.data.toList b.data.toList))/\w'=w:=Any.strings_Compare Tryz.lays106 a b w
def Tryz.laysM173_ren:Go.Shelf.Ren:=⟨fun|173=>271|246=>235|283=>231|284=>232|285=>233|286=>234|129=>293|317=>292|318=>294|319=>295|320=>296|337=>328|338=>329|n=>n,fun|2=>2|3=>3|9=>9|4=>4|171=>349|0=>0|53=>165|37=>163|5=>5|173=>352|212=>416|51=>417|20=>20|213=>418|46=>48|232=>468|233=>469|n=>n,fun|17=>4|18=>8|19=>9|n=>n⟩
theorem Tryz.laysM173:Go.Proofs.LaysM.n173 Tryz.prog Tryz.laysM173_ren:={
 zdx:=by kernel_rfl
 f129:=zK Tryz.func293 (by kernel_rfl)
 f173:=zK Tryz.func271 (by kernel_rfl)
 f246:=zK Tryz.func235 (by kernel_rfl)
 f283:=zK Tryz.func231 (by kernel_rfl)
 f284:=zK Tryz.func232 (by kernel_rfl)
 f285:=zK Tryz.func233 (by kernel_rfl)
 f286:=zK Tryz.func234 (by kernel_rfl)
 f317:=zK Tryz.func292 (by kernel_rfl)
 f318:=zK Tryz.func294 (by kernel_rfl)
 f319:=zK Tryz.func295 (by kernel_rfl)
 f320:=zK Tryz.func296 (by kernel_rfl)
 f337:=zK Tryz.func328 (by kernel_rfl)
 f338:=zK Tryz.func329 (by kernel_rfl)
 t0:=Tryz.underlying0
 a0:=Tryz.isAgg0
 z0:=Tryz.sizeOf0
 v0:=Tryz.zeroValue0
 t2:=Tryz.underlying2
 a2:=Tryz.isAgg2
 z2:=Tryz.sizeOf2
 v2:=Tryz.zeroValue2
 t3:=Tryz.underlying3
 a3:=Tryz.isAgg3
 z3:=Tryz.sizeOf3
 v3:=Tryz.zeroValue3
 t4:=Tryz.underlying4
 a4:=Tryz.isAgg4
 z4:=Tryz.sizeOf4
 v4:=Tryz.zeroValue4
 t5:=Tryz.underlying5
 a5:=Tryz.isAgg5
 z5:=Tryz.sizeOf5
 v5:=Tryz.zeroValue5
 t9:=Tryz.underlying9
 a9:=Tryz.isAgg9
 z9:=Tryz.sizeOf9
 v9:=Tryz.zeroValue9
 t20:=Tryz.underlying20
 a20:=Tryz.isAgg20
 z20:=Tryz.sizeOf20
 v20:=Tryz.zeroValue20
 t37:=Tryz.underlying163
 a37:=Tryz.isAgg163
 z37:=Tryz.sizeOf163
 v37:=Tryz.zeroValue163
 t46:=Tryz.underlying48
 a46:=Tryz.isAgg48
 z46:=Tryz.sizeOf48
 v46:=Tryz.zeroValue48
 t51:=Tryz.underlying417
 a51:=Tryz.isAgg417
 z51:=Tryz.sizeOf417
 v51:=Tryz.zeroValue417
 t53:=Tryz.underlying165
 a53:=Tryz.isAgg165
 z53:=Tryz.sizeOf165
 v53:=Tryz.zeroValue165
 t171:=Tryz.underlying349
 a171:=Tryz.isAgg349
 z171:=Tryz.sizeOf349
 v171:=Tryz.zeroValue349
 t173:=Tryz.underlying352
 a173:=Tryz.isAgg352
 z173:=Tryz.sizeOf352
 v173:=Tryz.zeroValue352
 t212:=Tryz.underlying416
 a212:=Tryz.isAgg416
 z212:=Tryz.sizeOf416
 v212:=Tryz.zeroValue416
 t213:=Tryz.underlying418
 a213:=Tryz.isAgg418
 z213:=Tryz.sizeOf418
 t232:=Tryz.underlying468
 a232:=Tryz.isAgg468
 z232:=Tryz.sizeOf468
 v232:=Tryz.zeroValue468
 t233:=Tryz.underlying469
 a233:=Tryz.isAgg469
 z233:=Tryz.sizeOf469
 v233:=Tryz.zeroValue469
 g17:=by kernel_rfl
 g18:=by kernel_rfl
 g19:=by kernel_rfl
 i0:=by kernel_rfl
 i2:=by kernel_rfl
 i3:=by kernel_rfl
 i4:=by kernel_rfl
 i5:=by kernel_rfl
 i9:=by kernel_rfl
 i20:=by kernel_rfl
 i37:=by kernel_rfl
 i46:=by kernel_rfl
 i51:=by kernel_rfl
 i53:=by kernel_rfl
 i171:=by kernel_rfl
 i173:=by kernel_rfl
 i212:=by kernel_rfl
 i232:=by kernel_rfl
 i233:=by kernel_rfl
 m17:=by kernel_rfl
 m18:=by kernel_rfl
 m19:=by kernel_rfl }
open Go.RowKit Go.Sort Go.Lib in
theorem Tryz.strconv_FormatInt_10(n:Int)(h0:-9223372036854775808<=n)(h1:n<=9223372036854775807)(w:World)(htab:Lib.TabIs Tryz.prog w "internal/strconv.uint64pow10" .u64 Lib.pow10Tab) :
  zC 271 #[.int .i64 n,.int .i64 10] w fun e w'=>e=.returned (.string ⟨(Lib.itoa n).toArray⟩)/\∃k os,w'=grow (w.drewN k) os:=Any.strconv_FormatInt_10 Tryz.laysM173 n h0 h1 w htab
def Tryz.laysC174_ren:Go.Shelf.Ren:=⟨fun|174=>270|247=>311|245=>312|287=>344|279=>345|280=>346|281=>347|282=>348|321=>359|322=>360|316=>361|171=>81|205=>362|243=>169|246=>235|283=>231|284=>232|285=>233|286=>234|129=>293|317=>292|318=>294|319=>295|320=>296|337=>328|338=>329|n=>n,fun|9=>9|3=>3|2=>2|75=>31|85=>398|4=>4|167=>455|5=>5|53=>165|175=>456|46=>48|168=>458|37=>163|0=>0|210=>480|21=>21|127=>336|145=>486|143=>484|171=>349|173=>352|212=>416|51=>417|20=>20|213=>418|232=>468|233=>469|80=>45|n=>n,fun|15=>10|16=>11|17=>4|18=>8|19=>9|n=>n⟩
theorem Tryz.laysC174:Go.Proofs.LaysC.n174 Tryz.prog Tryz.laysC174_ren:={
 zdx:=by kernel_rfl
 f129:=zK Tryz.func293 (by kernel_rfl)
 f171:=zK Tryz.func81 (by kernel_rfl)
 f174:=zK Tryz.func270 (by kernel_rfl)
 f205:=zK Tryz.func362 (by kernel_rfl)
 f243:=zK Tryz.func169 (by kernel_rfl)
 f245:=zK Tryz.func312 (by kernel_rfl)
 f246:=zK Tryz.func235 (by kernel_rfl)
 f247:=zK Tryz.func311 (by kernel_rfl)
 f279:=zK Tryz.func345 (by kernel_rfl)
 f280:=zK Tryz.func346 (by kernel_rfl)
 f281:=zK Tryz.func347 (by kernel_rfl)
 f282:=zK Tryz.func348 (by kernel_rfl)
 f283:=zK Tryz.func231 (by kernel_rfl)
 f284:=zK Tryz.func232 (by kernel_rfl)
 f285:=zK Tryz.func233 (by kernel_rfl)
 f286:=zK Tryz.func234 (by kernel_rfl)
 f287:=zK Tryz.func344 (by kernel_rfl)
 f316:=zK Tryz.func361 (by kernel_rfl)
 f317:=zK Tryz.func292 (by kernel_rfl)
 f318:=zK Tryz.func294 (by kernel_rfl)
 f319:=zK Tryz.func295 (by kernel_rfl)
 f320:=zK Tryz.func296 (by kernel_rfl)
 f321:=zK Tryz.func359 (by kernel_rfl)
 f322:=zK Tryz.func360 (by kernel_rfl)
 f337:=zK Tryz.func328 (by kernel_rfl)
 f338:=zK Tryz.func329 (by kernel_rfl)
 t0:=Tryz.underlying0
 a0:=Tryz.isAgg0
 z0:=Tryz.sizeOf0
 v0:=Tryz.zeroValue0
 t2:=Tryz.underlying2
 a2:=Tryz.isAgg2
 z2:=Tryz.sizeOf2
 v2:=Tryz.zeroValue2
 t3:=Tryz.underlying3
 a3:=Tryz.isAgg3
 z3:=Tryz.sizeOf3
 v3:=Tryz.zeroValue3
 t4:=Tryz.underlying4
 a4:=Tryz.isAgg4
 z4:=Tryz.sizeOf4
 v4:=Tryz.zeroValue4
 t5:=Tryz.underlying5
 a5:=Tryz.isAgg5
 z5:=Tryz.sizeOf5
 v5:=Tryz.zeroValue5
 t9:=Tryz.underlying9
 a9:=Tryz.isAgg9
 z9:=Tryz.sizeOf9
 v9:=Tryz.zeroValue9
 t20:=Tryz.underlying20
 a20:=Tryz.isAgg20
 z20:=Tryz.sizeOf20
 v20:=Tryz.zeroValue20
 t21:=Tryz.underlying21
 a21:=Tryz.isAgg21
 z21:=Tryz.sizeOf21
 v21:=Tryz.zeroValue21
 t37:=Tryz.underlying163
 a37:=Tryz.isAgg163
 z37:=Tryz.sizeOf163
 v37:=Tryz.zeroValue163
 t46:=Tryz.underlying48
 a46:=Tryz.isAgg48
 z46:=Tryz.sizeOf48
 v46:=Tryz.zeroValue48
 t51:=Tryz.underlying417
 a51:=Tryz.isAgg417
 z51:=Tryz.sizeOf417
 v51:=Tryz.zeroValue417
 t53:=Tryz.underlying165
 a53:=Tryz.isAgg165
 z53:=Tryz.sizeOf165
 v53:=Tryz.zeroValue165
 t75:=Tryz.underlying31
 a75:=Tryz.isAgg31
 z75:=Tryz.sizeOf31
 v75:=Tryz.zeroValue31
 t85:=Tryz.underlying398
 a85:=Tryz.isAgg398
 z85:=Tryz.sizeOf398
 v85:=Tryz.zeroValue398
 t127:=Tryz.underlying336
 a127:=Tryz.isAgg336
 z127:=Tryz.sizeOf336
 v127:=Tryz.zeroValue336
 t143:=Tryz.underlying484
 a143:=Tryz.isAgg484
 z143:=Tryz.sizeOf484
 v143:=Tryz.zeroValue484
 t145:=Tryz.underlying486
 a145:=Tryz.isAgg486
 z145:=Tryz.sizeOf486
 v145:=Tryz.zeroValue486
 t167:=Tryz.underlying455
 a167:=Tryz.isAgg455
 z167:=Tryz.sizeOf455
 v167:=Tryz.zeroValue455
 t168:=Tryz.underlying458
 a168:=Tryz.isAgg458
 z168:=Tryz.sizeOf458
 v168:=Tryz.zeroValue458
 t171:=Tryz.underlying349
 a171:=Tryz.isAgg349
 z171:=Tryz.sizeOf349
 v171:=Tryz.zeroValue349
 t173:=Tryz.underlying352
 a173:=Tryz.isAgg352
 z173:=Tryz.sizeOf352
 v173:=Tryz.zeroValue352
 t175:=Tryz.underlying456
 a175:=Tryz.isAgg456
 z175:=Tryz.sizeOf456
 v175:=Tryz.zeroValue456
 t210:=Tryz.underlying480
 a210:=Tryz.isAgg480
 z210:=Tryz.sizeOf480
 v210:=Tryz.zeroValue480
 t212:=Tryz.underlying416
 a212:=Tryz.isAgg416
 z212:=Tryz.sizeOf416
 v212:=Tryz.zeroValue416
 t213:=Tryz.underlying418
 a213:=Tryz.isAgg418
 z213:=Tryz.sizeOf418
 t232:=Tryz.underlying468
 a232:=Tryz.isAgg468
 z232:=Tryz.sizeOf468
 v232:=Tryz.zeroValue468
 t233:=Tryz.underlying469
 a233:=Tryz.isAgg469
 z233:=Tryz.sizeOf469
 v233:=Tryz.zeroValue469
 g15:=by kernel_rfl
 g16:=by kernel_rfl
 g17:=by kernel_rfl
 g18:=by kernel_rfl
 g19:=by kernel_rfl
 t80:=Tryz.underlying45
 a80:=Tryz.isAgg45
 z80:=Tryz.sizeOf45
 v80:=Tryz.zeroValue45
 i0:=by kernel_rfl
 i2:=by kernel_rfl
 i3:=by kernel_rfl
 i4:=by kernel_rfl
 i5:=by kernel_rfl
 i9:=by kernel_rfl
 i20:=by kernel_rfl
 i21:=by kernel_rfl
 i37:=by kernel_rfl
 i46:=by kernel_rfl
 i51:=by kernel_rfl
 i53:=by kernel_rfl
 i75:=by kernel_rfl
 i80:=by kernel_rfl
 i85:=by kernel_rfl
 i127:=by kernel_rfl
 i143:=by kernel_rfl
 i145:=by kernel_rfl
 i167:=by kernel_rfl
 i168:=by kernel_rfl
 i171:=by kernel_rfl
 i173:=by kernel_rfl
 i175:=by kernel_rfl
 i210:=by kernel_rfl
 i212:=by kernel_rfl
 i232:=by kernel_rfl
 i233:=by kernel_rfl
 m15:=by kernel_rfl
 m16:=by kernel_rfl
 m17:=by kernel_rfl
 m18:=by kernel_rfl
 m19:=by kernel_rfl
 c0:=by kernel_rfl
 c2:=by kernel_rfl
 c3:=by kernel_rfl
 c4:=by kernel_rfl
 c5:=by kernel_rfl
 c9:=by kernel_rfl
 c20:=by kernel_rfl
 c21:=by kernel_rfl
 c37:=by kernel_rfl
 c46:=by kernel_rfl
 c51:=by kernel_rfl
 c53:=by kernel_rfl
 c75:=by kernel_rfl
 c80:=by kernel_rfl
 c85:=by kernel_rfl
 c127:=by kernel_rfl
 c143:=by kernel_rfl
 c145:=by kernel_rfl
 c167:=by kernel_rfl
 c168:=by kernel_rfl
 c171:=by kernel_rfl
 c173:=by kernel_rfl
 c175:=by kernel_rfl
 c210:=by kernel_rfl
 c212:=by kernel_rfl
 c213:=by kernel_rfl
 c232:=by kernel_rfl
 c233:=by kernel_rfl }
open Go.RowKit in
theorem Tryz.strconv_ParseInt_10_at64_ok(s:ByteArray)(hmax:s.size<=9223372036854775806)(v:Int)(h:Lib.parseIntB 64 s.data.toList=.ok v)(w:World) :
  zC 270 #[.string s,.int .i64 10,.int .i64 64] w fun e w'=>e=.returned (.tuple #[.int .i64 v,.nilIface])/\(w'=w\/∃t,w'=Lib.bytesWorld w 5 t):=Any.strconv_ParseInt_10_at64_ok Tryz.laysC174 s hmax v h w
open Go.RowKit in
theorem Tryz.strconv_ParseInt_10_at64_syntax(s:ByteArray)(hlim:s.size<=281474976710656)(h:Lib.parseIntB 64 s.data.toList=.«syntax»)(ev:Value)(w:World)(hv:w.cell? ⟨10,0,none⟩=some ev)(hev:ev=.nilIface\/∃te pe,ev=.iface te pe) :
  zC 270 #[.string s,.int .i64 10,.int .i64 64] w fun e w'=>∃N,e=.returned (.tuple #[.int .i64 (0),.iface 458 (.pointer (some ⟨N,0,none⟩))])/\w.heap.size<=N/\w'.heap[N]?=some (.cells #[.string ⟨#[80,97,114,115,101,73,110,116]⟩,.string s,ev] 480 (0,0))/\zB w w':=Any.strconv_ParseInt_10_at64_syntax Tryz.laysC174 s hlim h ev w hv hev
open Go.RowKit in
theorem Tryz.strconv_ParseInt_10_at64_range(s:ByteArray)(hlim:s.size<=281474976710656)(h:Lib.parseIntB 64 s.data.toList=.range)(ev:Value)(w:World)(hv:w.cell? ⟨11,0,none⟩=some ev)(hev:ev=.nilIface\/∃te pe,ev=.iface te pe) :
  zC 270 #[.string s,.int .i64 10,.int .i64 64] w fun e w'=>∃N,e=.returned (.tuple #[.int .i64 (Lib.intSat 64 s.data.toList),.iface 458 (.pointer (some ⟨N,0,none⟩))])/\w.heap.size<=N/\w'.heap[N]?=some (.cells #[.string ⟨#[80,97,114,115,101,73,110,116]⟩,.string s,ev] 480 (0,0))/\zB w w':=Any.strconv_ParseInt_10_at64_range Tryz.laysC174 s hlim h ev w hv hev
def Tryz.lays143_ren:Go.Shelf.Ren:=⟨fun|143=>250|219=>272|217=>269|225=>313|224=>314|267=>315|266=>310|314=>349|n=>n,fun|9=>9|3=>3|4=>4|5=>5|46=>48|146=>461|51=>417|n=>n,fun|1=>5|n=>n⟩
theorem Tryz.lays143:Go.Proofs.Lays.n143 Tryz.prog Tryz.lays143_ren:={
 zdx:=by kernel_rfl
 f143:=zK Tryz.func250 (by kernel_rfl)
 f217:=zK Tryz.func269 (by kernel_rfl)
 f219:=zK Tryz.func272 (by kernel_rfl)
 f224:=zK Tryz.func314 (by kernel_rfl)
 f225:=zK Tryz.func313 (by kernel_rfl)
 f266:=zK Tryz.func310 (by kernel_rfl)
 f267:=zK Tryz.func315 (by kernel_rfl)
 f314:=zK Tryz.func349 (by kernel_rfl)
 t3:=Tryz.underlying3
 a3:=Tryz.isAgg3
 z3:=Tryz.sizeOf3
 v3:=Tryz.zeroValue3
 t4:=Tryz.underlying4
 a4:=Tryz.isAgg4
 z4:=Tryz.sizeOf4
 v4:=Tryz.zeroValue4
 t5:=Tryz.underlying5
 a5:=Tryz.isAgg5
 z5:=Tryz.sizeOf5
 v5:=Tryz.zeroValue5
 t9:=Tryz.underlying9
 a9:=Tryz.isAgg9
 z9:=Tryz.sizeOf9
 v9:=Tryz.zeroValue9
 t46:=Tryz.underlying48
 a46:=Tryz.isAgg48
 z46:=Tryz.sizeOf48
 v46:=Tryz.zeroValue48
 t51:=Tryz.underlying417
 a51:=Tryz.isAgg417
 z51:=Tryz.sizeOf417
 v51:=Tryz.zeroValue417
 t146:=Tryz.underlying461
 a146:=Tryz.isAgg461
 z146:=Tryz.sizeOf461
 v146:=Tryz.zeroValue461
 g1:=by kernel_rfl }
open Go.RowKit Go.Lib in
theorem Tryz.strings_Index(s sub:ByteArray)(m:Int)(w:World)(hs:s.size<4294967281)(hm:w.cell? ⟨5,0,none⟩=some (.int .i64 m)) :
  zC 250 #[.string s,.string sub] w fun e w'=>e=.returned (.int .i64 (Lib.index s.data.toList sub.data.toList))/\w'=w:=Any.strings_Index Tryz.lays143 s sub m w hs hm
def Tryz.lays145_ren:Go.Shelf.Ren:=⟨fun|145=>132|220=>206|219=>272|217=>269|225=>313|224=>314|267=>315|266=>310|314=>349|n=>n,fun|9=>9|4=>4|59=>234|3=>3|5=>5|46=>48|146=>461|51=>417|n=>n,fun|1=>5|n=>n⟩
theorem Tryz.lays145:Go.Proofs.Lays.n145 Tryz.prog Tryz.lays145_ren:={
 zdx:=by kernel_rfl
 f145:=zK Tryz.func132 (by kernel_rfl)
 f217:=zK Tryz.func269 (by kernel_rfl)
 f219:=zK Tryz.func272 (by kernel_rfl)
 f220:=zK Tryz.func206 (by kernel_rfl)
 f224:=zK Tryz.func314 (by kernel_rfl)
 f225:=zK Tryz.func313 (by kernel_rfl)
 f266:=zK Tryz.func310 (by kernel_rfl)
 f267:=zK Tryz.func315 (by kernel_rfl)
 f314:=zK Tryz.func349 (by kernel_rfl)
 t3:=Tryz.underlying3
 a3:=Tryz.isAgg3
 z3:=Tryz.sizeOf3
 v3:=Tryz.zeroValue3
 t4:=Tryz.underlying4
 a4:=Tryz.isAgg4
 z4:=Tryz.sizeOf4
 v4:=Tryz.zeroValue4
 t5:=Tryz.underlying5
 a5:=Tryz.isAgg5
 z5:=Tryz.sizeOf5
 v5:=Tryz.zeroValue5
 t9:=Tryz.underlying9
 a9:=Tryz.isAgg9
 z9:=Tryz.sizeOf9
 v9:=Tryz.zeroValue9
 t46:=Tryz.underlying48
 a46:=Tryz.isAgg48
 z46:=Tryz.sizeOf48
 v46:=Tryz.zeroValue48
 t51:=Tryz.underlying417
 a51:=Tryz.isAgg417
 z51:=Tryz.sizeOf417
 v51:=Tryz.zeroValue417
 t59:=Tryz.underlying234
 a59:=Tryz.isAgg234
 z59:=Tryz.sizeOf234
 v59:=Tryz.zeroValue234
 t146:=Tryz.underlying461
 a146:=Tryz.isAgg461
 z146:=Tryz.sizeOf461
 v146:=Tryz.zeroValue461
 g1:=by kernel_rfl }
open Go.RowKit Go.Lib in
theorem Tryz.strings_Cut(s sep:ByteArray)(m:Int)(w:World)(hs:s.size<4294967281)(hm:w.cell? ⟨5,0,none⟩=some (.int .i64 m)) :
  zC 132 #[.string s,.string sep] w fun e w'=>e=.returned (.tuple #[.string ⟨(Lib.cut s.data.toList sep.data.toList).1.toArray⟩,.string ⟨(Lib.cut s.data.toList sep.data.toList).2.1.toArray⟩,.bool (Lib.cut s.data.toList sep.data.toList).2.2])/\∃n,w'=w.drewN n:=Any.strings_Cut Tryz.lays145 s sep m w hs hm
def Tryz.lays138_ren:Go.Shelf.Ren:=⟨fun|138=>207|195=>273|218=>274|143=>250|219=>272|217=>269|225=>313|224=>314|267=>315|266=>310|314=>349|n=>n,fun|9=>9|3=>3|4=>4|5=>5|0=>0|46=>48|146=>461|51=>417|n=>n,fun|1=>5|n=>n⟩
theorem Tryz.lays138:Go.Proofs.Lays.n138 Tryz.prog Tryz.lays138_ren:={
 zdx:=by kernel_rfl
 f138:=zK Tryz.func207 (by kernel_rfl)
 f143:=zK Tryz.func250 (by kernel_rfl)
 f195:=zK Tryz.func273 (by kernel_rfl)
 f217:=zK Tryz.func269 (by kernel_rfl)
 f218:=zK Tryz.func274 (by kernel_rfl)
 f219:=zK Tryz.func272 (by kernel_rfl)
 f224:=zK Tryz.func314 (by kernel_rfl)
 f225:=zK Tryz.func313 (by kernel_rfl)
 f266:=zK Tryz.func310 (by kernel_rfl)
 f267:=zK Tryz.func315 (by kernel_rfl)
 f314:=zK Tryz.func349 (by kernel_rfl)
 t0:=Tryz.underlying0
 a0:=Tryz.isAgg0
 z0:=Tryz.sizeOf0
 v0:=Tryz.zeroValue0
 t3:=Tryz.underlying3
 a3:=Tryz.isAgg3
 z3:=Tryz.sizeOf3
 v3:=Tryz.zeroValue3
 t4:=Tryz.underlying4
 a4:=Tryz.isAgg4
 z4:=Tryz.sizeOf4
 v4:=Tryz.zeroValue4
 t5:=Tryz.underlying5
 a5:=Tryz.isAgg5
 z5:=Tryz.sizeOf5
 v5:=Tryz.zeroValue5
 t9:=Tryz.underlying9
 a9:=Tryz.isAgg9
 z9:=Tryz.sizeOf9
 v9:=Tryz.zeroValue9
 t46:=Tryz.underlying48
 a46:=Tryz.isAgg48
 z46:=Tryz.sizeOf48
 v46:=Tryz.zeroValue48
 t51:=Tryz.underlying417
 a51:=Tryz.isAgg417
 z51:=Tryz.sizeOf417
 v51:=Tryz.zeroValue417
 t146:=Tryz.underlying461
 a146:=Tryz.isAgg461
 z146:=Tryz.sizeOf461
 v146:=Tryz.zeroValue461
 g1:=by kernel_rfl }
open Go.RowKit Go.Lib in
theorem Tryz.strings_Count_one(s:ByteArray)(c:UInt8)(w:World) :
  zC 207 #[.string s,.string ⟨#[c]⟩] w fun e w'=>e=.returned (.int .i64 (Lib.countByte s.data.toList c))/\w'=w:=Any.strings_Count_one Tryz.lays138 s c w
end Go.Proofs
end Go.Proofs.YtiihalknffbjpaaGreatDoor

/- pick. -/
import Derived.Test.YtjmfeefogikdfaaGreatDoorSpMany
namespace Go.Proofs.YtjmfeefogikdfaaGreatDoor
set_option maxHeartbeats 4000000
set_option maxRecDepth 100000
namespace Bd
open Go.RowKit
section
variable {vars:Nat} {K:List (List Int)}
theorem zmr(h24:vars<=24)(hl:zU vars K):xD K=true↔∃f:Nat->Bool,(∀j,vars<=j->f j=false)/\K.all (clS f)=true:=by
 rw[<-zg3 h24 hl];unfold Yu;rw[XC];exact⟨fun⟨f,h1,h2⟩=>⟨f,fun j hj=>h1 j (by omega),h2⟩,fun⟨f,h1,h2⟩=>⟨f,fun j hj=>h1 j (by omega),h2⟩⟩
theorem zdu(h12:vars<=12)(hl:zU vars K){v:Nat}(hv:v<vars)(is:Bool):yX vars (clF K).1 (clF K).2 is v=true↔∀f:Nat->Bool,(∀j,vars<=j->f j=false)->K.all (clS f)=true->f v=is:=by
 rw[zjp hv];have hs:=(YX h12 hl).sem;exact⟨fun h f a b=>h f a ((hs f).trans b),fun h f a b=>h f a ((hs f).symm.trans b)⟩
def yg(v:Nat)(is:Bool):Int:=if is then -(v:Int)-1 else (v:Int)+1
theorem zc8(v:Nat)(hv:v<vars)(is:Bool):zJ vars (yg v is)=true:=by
 rw[qx];unfold yg;cases is<;>simp<;>omega
theorem zcN(v:Nat)(is:Bool)(f:Nat->Bool):clS f [yg v is]=!(f v==is):=by
 have hv:zM (yg v is)=v:=by unfold zM yg;cases is<;>simp<;>omega
 have hs:decide (0<yg v is)=!is:=by
  unfold yg;cases is
  ·simp<;>omega
  ·simp<;>omega
 show ([yg v is].any (xd f))=_;rw[List.any_cons,List.any_nil,Bool.or_false];unfold xd;rw[hv,hs];cases f v<;>cases is<;>rfl
theorem zeM(hl:zU vars K){v:Nat}(hv:v<vars)(is:Bool):zU vars (K++[[yg v is]]):=fun c hc=>by
 rcases List.mem_append.1 hc with h|h
 ·exact hl c h
 ·rw[List.mem_singleton] at h;subst h;intro x hx;rw[List.mem_singleton] at hx;subst hx;exact zc8 v hv is
theorem zes(h12:vars<=12)(hl:zU vars K){v:Nat}(hv:v<vars)(is:Bool):yX vars (clF K).1 (clF K).2 is v=!xD (K++[[yg v is]]):=by
 have h1:=zdu h12 hl hv is;have h2:=zmr (show vars<=24 by omega) (zeM hl hv is);cases hq:xD (K++[[yg v is]]) with
 |true =>
  obtain⟨f,a,b⟩:=h2.1 hq;rw[List.all_append,Bool.and_eq_true] at b;have b2:clS f [yg v is]=true:=by simpa using b.2
  rw[zcN] at b2;cases hs:yX vars (clF K).1 (clF K).2 is v with
  |false=>rfl
  |true=>rw[h1.1 hs f a b.1] at b2;simp at b2
 |false =>
  show _=true;rw[h1];intro f a b;cases hc:(f v==is) with
  |true=>exact eq_of_beq hc
  |false =>have:xD (K++[[yg v is]])=true:=h2.2 ⟨f,a,by rw[List.all_append,b];simp[zcN,hc]⟩;rw[hq] at this;cases this
theorem zbC(h12:vars<=12)(hl:zU vars K){v:Nat}(hv:v<vars)(is:Bool){vals:Nat}(ha:xY vals K=true)(hs:yX vars (clF K).1 (clF K).2 is v=true):qR vals v=is:=by
 have h:=(zdu h12 hl hv is).1 hs (fun j=>if j<vars then qR vals j else false) (fun j hj=>if_neg (by omega)) (by
  rw [JL hl (g:=qR vals) (fun i hi=>if_pos hi),KY (by omega) hl];exact ha)
 simpa[hv] using h
theorem zb5{ns:List Nd}{h:Int}{is:Bool}{v:Nat}(hv:v<vars):((qm vars ns h is vars).any fun x=>x==(v:Int))=yX vars ns h is v:=by
 rw[Bool.eq_iff_iff,List.any_eq_true];unfold qm;constructor
 ·rintro⟨x,hx,e⟩;obtain⟨i,hi,rfl⟩:=List.mem_map.1 hx;have:i=v:=by have:=eq_of_beq e;omega
  subst this;exact(List.mem_filter.1 hi).2
 ·intro hb;exact⟨(v:Int),List.mem_map.2 ⟨v,List.mem_filter.2 ⟨List.mem_range.2 hv,hb⟩,rfl⟩,by simp⟩
end
end Bd
section
open Go.RowKit Go.Deep Sv
def nmA:ByteArray:=⟨#[97]⟩
def nmN:ByteArray:=⟨#[]⟩
theorem zkd:QD ⟨#[112,97,99,107,97,103,101,32,97,32,49,46,48,46,48]⟩=.ok ⟨1,nmA,1,0,0,nmN,[]⟩:=by kernel_rfl
def Zf:List It:=[⟨nmA,2,0,0⟩,⟨nmA,1,0,0⟩]
theorem zeI:zW nmA:=by
 refine⟨by decide,by decide,by decide,by rw[ByteArray.toList_eq];decide,by rw[ByteArray.toList_eq];decide,fun k hk=>?_⟩;obtain rfl:k=0:=by have:nmA.size=1:=rfl;omega
 left;decide
theorem zjs:qQ ⟨1,nmA,1,0,0,nmN,[]⟩=0:=by
 unfold qQ;rw[if_neg (by simp),if_neg (fun h=>by rcases h with h|⟨h,_⟩;exact h zeI;simp[Ln.pair] at h),if_neg (fun h=>h.2 rfl),if_neg (by simp),if_neg (by simp),if_neg (by simp[InV])]
theorem zhx:¬(8<qX ([]++[(⟨nmA,1,0,0⟩:It)])\/([]:List It).length=24):=by
 have:qX ([]++[(⟨nmA,1,0,0⟩:It)])=1:=by kernel_rfl
 rw[this];simp
end
section
open Go.RowKit Go.Deep Sv
def Qk:ByteArray:=⟨#[112,97,99,107,97,103,101,32,97,32,49,46,48,46,48,10,112,97,99,107,97,103,101,32,98,32,49,46,48,46,48,10,110,101,101,100,115,32,97,32,49,46,48,46,48,32,98,32,97,110,121,10]⟩
def nmB:ByteArray:=⟨#[98]⟩
theorem zfh:qT Qk 52 0=[(0,⟨#[112,97,99,107,97,103,101,32,97,32,49,46,48,46,48]⟩),(16,⟨#[112,97,99,107,97,103,101,32,98,32,49,46,48,46,48]⟩),(32,⟨#[110,101,101,100,115,32,97,32,49,46,48,46,48,32,98,32,97,110,121]⟩)]:=by kernel_rfl
theorem ziX:QD ⟨#[112,97,99,107,97,103,101,32,98,32,49,46,48,46,48]⟩=.ok ⟨1,nmB,1,0,0,nmN,[]⟩:=by kernel_rfl
theorem zlx:QD ⟨#[110,101,101,100,115,32,97,32,49,46,48,46,48,32,98,32,97,110,121]⟩=.ok ⟨2,nmA,1,0,0,nmB,[(0,1000000000)]⟩:=by kernel_rfl
def xm:List Ln:=[⟨1,nmA,1,0,0,nmN,[]⟩,⟨1,nmB,1,0,0,nmN,[]⟩,⟨2,nmA,1,0,0,nmB,[(0,1000000000)]⟩]
def ye:List It:=[⟨nmA,1,0,0⟩,⟨nmB,1,0,0⟩]
theorem zbi:zW nmB:=by
 refine⟨by decide,by decide,by decide,by rw[ByteArray.toList_eq];decide,by rw[ByteArray.toList_eq];decide,fun k hk=>?_⟩;obtain rfl:k=0:=by have:nmB.size=1:=rfl;omega
 left;decide
theorem zmu:qQ ⟨1,nmB,1,0,0,nmN,[]⟩=0:=by
 unfold qQ;rw[if_neg (by simp),if_neg (fun h=>by rcases h with h|⟨h,_⟩;exact h zbi;simp[Ln.pair] at h),if_neg (fun h=>h.2 rfl),if_neg (by simp),if_neg (by simp),if_neg (by simp[InV])]
theorem zmL:qQ ⟨2,nmA,1,0,0,nmB,[(0,1000000000)]⟩=0:=by
 unfold qQ;rw[if_neg (by simp),if_neg (fun h=>by rcases h with h|⟨_,h⟩;exact h zeI;exact h zbi),if_neg (fun h=>h.1 (Or.inl rfl)),if_neg (by simp),if_neg (by simp),if_neg (by simp[InV])]
theorem ziA:¬(8<qX ([(⟨nmA,1,0,0⟩:It)]++[(⟨nmB,1,0,0⟩:It)])\/([(⟨nmA,1,0,0⟩:It)]).length=24):=by
 have:qX ([(⟨nmA,1,0,0⟩:It)]++[(⟨nmB,1,0,0⟩:It)])=2:=by kernel_rfl
 rw[this];simp
theorem ziN:qK xm 0 []=.ok [⟨nmA,1,0,0⟩,⟨nmB,1,0,0⟩]:=by
 unfold xm;rw[qK,if_neg (by rw[zjs];simp),if_pos rfl,if_neg (by simp),if_neg (show ¬(8<qX ([]++[Ln.it ⟨1,nmA,1,0,0,nmN,[]⟩])\/([]:List It).length=24) from zhx)];rw[qK,if_neg (by rw[zmu];simp),if_pos rfl,if_neg (by decide),if_neg (show ¬(8<qX ([]++[Ln.it ⟨1,nmA,1,0,0,nmN,[]⟩]++[Ln.it ⟨1,nmB,1,0,0,nmN,[]⟩])\/([]++[Ln.it ⟨1,nmA,1,0,0,nmN,[]⟩]:List It).length=24) from ziA)];rw[qK,if_neg (by rw[zmL];simp),if_neg (by simp),qK];rfl
theorem zh2:(!decide (yj ⟨nmB,1,0,0⟩ ⟨nmA,1,0,0⟩<0))=true:=by kernel_rfl
theorem zjL:yn [⟨nmA,1,0,0⟩,⟨nmB,1,0,0⟩]=ye:=by
 unfold yn ye;rw[List.mergeSort];simp[List.MergeSort.Internal.splitInTwo,List.splitAt,List.splitAt.go,zh2]
theorem zj1:yy xm 0 ye=none:=by kernel_rfl
theorem zcW:yM xm=.ok ye:=by
 unfold yM;rw[if_neg (by decide),ziN];simp only[zjL,zj1]
theorem zl3:plF (qT Qk 52 0) []=.ok [(0,⟨1,nmA,1,0,0,nmN,[]⟩),(16,⟨1,nmB,1,0,0,nmN,[]⟩),(32,⟨2,nmA,1,0,0,nmB,[(0,1000000000)]⟩)]:=by
 rw[zfh,plF,zkd];simp only[plF,ziX,zlx];rfl
theorem zmQ:xU Qk=.ok (xm,ye):=by
 unfold xU;rw[if_neg (by decide),show Qk.size=52 from rfl,zl3];have h:=zcW;unfold xm at h;simp only[List.map_cons,List.map_nil,h];rfl
theorem zje:xV [(0,1000000000)] (ye.getD 1 default):=by
 refine⟨by simp[ye,InV],?_⟩;simp[ye,mem,Yl]
theorem zj4:yp ye nmB=(1,2):=by kernel_rfl
theorem zmo:yb ye nmB [(0,1000000000)]=[1]:=by
 unfold yb;rw[zj4];show List.filter _ [1]=[1];rw[List.filter_cons,if_pos (by simpa using zje)];rfl
theorem zhD:qW ye (Ln.it ⟨2,nmA,1,0,0,nmB,[(0,1000000000)]⟩)=0:=by kernel_rfl
theorem zmf:prF ye 2=[]:=by kernel_rfl
theorem zdd:ofL ye xm=[(2,[-1,2])]:=by
 unfold ofL;rw[show ye.length=2 from rfl,zmf,show xm.length=3 from rfl];have h0:yG ye 0 (xm.getD 0 default)=[]:=by unfold yG;rw[if_neg (by decide),if_neg (by decide),if_neg (by decide)]
 have h1:yG ye 1 (xm.getD 1 default)=[]:=by unfold yG;rw[if_neg (by decide),if_neg (by decide),if_neg (by decide)]
 have h2:yG ye 2 (xm.getD 2 default)=[(2,[-1,2])]:=by
  unfold yG;rw[if_neg (by decide),if_pos (by decide)];show [(((2:Nat):Int),qF (qW ye (Ln.it ⟨2,nmA,1,0,0,nmB,[(0,1000000000)]⟩)) :: (yb ye nmB [(0,1000000000)]).map fun (k:Nat)=>((k:Int)+1))]=_;rw[zmo,zhD];rfl
 rw[Xr,Xr,Xr,h0,h1,h2];rfl
end
namespace Bd
open Go.RowKit Go.Deep Sv
def Jv(w:World)(m:Nat)(q e:Value)(wx:World):Prop:=∃qb a n c,q=.pointer (some ⟨qb,0,none⟩)/\e=.nilIface/\qb<wx.heap.size/\wx.cell? ⟨qb,0,none⟩=some (.slice a n c)/\qd wx (.agg #[.slice a n c]) m/\zB w wx
theorem zfJ:Yu 2 [[-1,2]]=3:=by kernel_rfl
theorem zlY:Lib.decDigits 3=[51]:=by kernel_rfl
structure zbn(W0:World)(p s:Nat)(al:Int)(m:Nat):Prop where
 sc:∀W,zB W0 W->W.cell? ⟨p,0,none⟩=some (.pointer (some ⟨s,0,none⟩))/\W.cell? ⟨p,1,none⟩=some (.int .i64 al)
 cn:∀W,zB W0 W->zC 14 #[.pointer (some ⟨s,0,none⟩),.int .i64 al] W fun e w'=>∃a n c,e=.returned (.tuple #[.agg #[.slice a n c],.nilIface])/\qd w' (.agg #[.slice a n c]) m/\zB W w'
theorem zm1{B p s b vars:Nat}{O:Nat->Prop}{room:Int}{K:List (List Int)}{W0:World}(h:xT B W0 p s b O vars room (clF K))(h12:vars<=12)(hl:zU vars K):zbn W0 p s (clF K).2 (Yu vars K) :=
 ⟨fun _ hW=>⟨(h.blk.below hW h.blk.lt).cell 0,(h.blk.below hW h.blk.lt).cell 1⟩,fun _ hW=>zhW (h.space.new hW) h12 hl⟩
theorem zhZ{W0 x1:World}{m n c:Nat}{a:Option Addr}(D1:zB W0 x1)(hn:qd x1 (.agg #[.slice a n c]) m):Jv W0 m (.pointer (some ⟨x1.heap.size,0,none⟩)) .nilIface (x1.alloc (.cells #[.slice a n c] 56)) :=
 ⟨x1.heap.size,a,n,c,rfl,rfl,by simp,by simp,hn.new (below_new x1 _),zL D1⟩
theorem zhr{W0 x1:World}{m n c q:Nat}{a:Option Addr}(D1:zB W0 x1)(hq:W0.heap.size<=q)(kz:Blk x1 q 56 #[.slice none 0 0])(hn:qd x1 (.agg #[.slice a n c]) m):Jv W0 m (.pointer (some ⟨q,0,none⟩)) .nilIface (x1.setCell ⟨q,0,none⟩ (.slice a n c)) :=
 ⟨q,a,n,c,rfl,rfl,by simpa using kz.lt,(kz.set (i:=0) (v:=.slice a n c)).cell 0,hn.kept (zb.setCell (S:=fun j=>j=q) x1 ⟨q,0,none⟩ _ rfl) (fun b' o n' e=>by
  cases e;rw[kz.cell o]
  match o with
  |0=>simp
  | o + 1=>simp),D1.setCell (p:=⟨q,0,none⟩) hq _⟩
theorem zah(w:World)(hw:Lw w):zR 5 #[] w (.bool true):=by
 have HP0:=zep Qk w hw;rw[zmQ] at HP0;have HP:Hid (zC 12 #[.string Qk] w fun e w'=>∃bc,e=.returned (.tuple #[.pointer (some ⟨bc,0,none⟩),.nilIface])/\y9 w' bc xm ye/\zB w w'):=by
  refine HP0.mono ?_;rintro e w' ⟨bc,vs,rfl,q1,-,q3⟩;exact⟨bc,rfl,q1.cat,q3⟩
 have HOF:Hid (∀W bc,y9 W bc xm ye->zC 6 #[.pointer (some ⟨bc,0,none⟩),.int .i64 100] W fun e w'=>∃p s al,e=.returned (.tuple #[.pointer (some ⟨p,0,none⟩),.nilIface])/\zbn w' p s al 3/\zB W w'):=fun W bc hcat=>by
  have hN:∀x∈xm,x.name.size<=100000/\x.other.size<=100000:=by
   intro x hx;simp only[xm,List.mem_cons,List.not_mem_nil,or_false] at hx;rcases hx with rfl|rfl|rfl<;>exact⟨by decide,by decide⟩
  have hLL:zU 2 [[-1,2]]:=by
   intro c hc x hx;rw[List.mem_singleton] at hc;subst hc;simp at hx;rcases hx with rfl|rfl<;>decide
  have h:=zbY bc xm ye W hcat zcW (by decide) (by decide) hN (by rw[zdd];decide) 100 (by decide) (by decide) (by decide);rw[zdd] at h;refine h.mono ?_;rintro e w' ⟨p,s,b,O,rfl,h1,h2⟩;have h3:=zm1 (K:=[[-1,2]]) (vars:=2) h1 (by decide) hLL;rw[zfJ] at h3;exact⟨p,s,_,rfl,h3,h2⟩
 have HTX:Hid (∀W v,zB w W->qd W v 3->zR 15 #[v] W (.string ⟨#[51]⟩)):=fun W v hb hn=>by
  have:=zh3 hn (by decide) (hw.below hb).lb.tab;rw[zlY] at this;exact this
 have hT:Qk=⟨#[112,97,99,107,97,103,101,32,97,32,49,46,48,46,48,10,112,97,99,107,97,103,101,32,98,32,49,46,48,46,48,10,110,101,101,100,115,32,97,32,49,46,48,46,48,32,98,32,97,110,121,10]⟩:=rfl;rw[hT] at HP;clear HP0 hw hT;go_enter Tryz.func5,Tryz.ntmps5;go_wp2_with fail;refine HP.out.mono ?_;rintro e w1 ⟨bc,rfl,hcat,hb1⟩;have HO1:=zH (HOF.out w1 bc hcat);have HB1:=zH hb1;clear hcat hb1 HP HOF;go_wp2_with fail;refine HO1.out.mono ?_;rintro e w2 ⟨p,s,al,rfl,hca,hb2⟩;have HCA:=zH hca;have HB2:Hid (zB w w2):=zT HB1.out hb2;have SC:=zH hca.sc;have HCN:=zH hca.cn;clear hca hb2 HB1 HO1;go_wp2_with fail;have D0:zB w2 w2.drew:=zF.drew;have D0a:zB w2 (w2.alloc (.cells #[.slice none 0 0] 56)).drew:=(zF.alloc zN _).drew;have k0a:Blk (w2.alloc (.cells #[.slice none 0 0] 56)).drew w2.heap.size 56 #[.slice none 0 0]:=Blk.new w2 56 #[.slice none 0 0];go_cut [4,2] (fun q e wx=>Jv w2 3 q e wx)
 case first =>
  go_region_held3 (fun X=>X.cell? ⟨p,0,none⟩=some (.pointer (some ⟨s,0,none⟩))/\X.cell? ⟨p,1,none⟩=some (.int .i64 al)) (first|exact SC.out _ D0|exact SC.out _ D0a|exact SC.out _ D1|exact SC.out _ D1a|exact SC.out _ D1s)
   (first
    |((with_reducible refine(HCN.out _ D0).mono ?_);rintro e x1 ⟨ca,cn,cc,rfl,hna,hb1⟩;have D1:zB w2 x1:=zT D0 hb1;have D1a:zB w2 (x1.alloc (.cells #[.slice none 0 0] 56)):=zL D1;have D1s:zB w2 (x1.alloc (.cells #[.slice ca cn cc] 56)):=zL D1;have hbx:=zhZ D1 hna;clear HCN D0 D0a k0a hb1)
    | ((with_reducible refine (HCN.out _ D0a).mono ?_);rintro e x1 ⟨ca,cn,cc,rfl,hna,hb1⟩;have D1:zB w2 x1:=zT D0a hb1;have kz:=k0a.below hb1 k0a.lt;have D1s:zB w2 (x1.setCell ⟨w2.heap.size,0,none⟩ (.slice ca cn cc)):=D1.setCell (p:=⟨w2.heap.size,0,none⟩) zN _;have hbx:=zhr D1 zN kz hna;have z0:=kz.cell 0;have z1:=kz.frozen 0;clear HCN D0 D0a k0a hb1 kz))
  all_goals
   have HBX:=zH hbx;clear hbx;go_wp2_with fail;go_meet
   case rel=>exact HBX.out
 case rest =>obtain⟨qb,a,n,c,rfl,rfl,hql,hqc,hn,hb3⟩:=hcut;have HTX3:=zH (HTX.out _ _ (zT HB2.out hb3) hn);have HB3:=zH (zT HB2.out hb3);clear hn hb3 HTX;go_wp2_with fail;refine HTX3.out.mono ?_;rintro e w4 ⟨rfl,hb4⟩;have HB4:=zH (zT HB3.out hb4);clear hb4 HTX3;go_wp2;go_ret;exact⟨by first|rfl|simp,HB4.out⟩
end Bd
section
open Go.RowKit Go.Deep Sv
theorem zcK(s:ByteArray)(w:World)(hw:Lw w)(ls:List Ln)(its:List It)(m:Nat)(hr:Zg s m=some (ls,its)):zC 4 #[.string s,.int .i64 m] w fun e w'=>∃bc ca cc fa fc,e=.returned (.tuple #[.pointer (some ⟨bc,0,none⟩),.agg #[.int .i64 its.length,.slice ca (ofL its ls).length cc,.slice fa (ofL its ls).length fc],.bool true])/\(ca=none->cc=0)/\y9 w' bc ls its/\RS w.heap.size w' (.slice ca (ofL its ls).length cc) (.slice fa (ofL its ls).length fc) ((ofL its ls).map Prod.snd) ((ofL its ls).map Prod.fst)/\zB w w':=by
 have HRD0:=zdi s m w hw;rw[hr] at HRD0;refine HRD0.mono fun e w' ⟨bc,cv,fv,h1,h2,h3,h4⟩=>?_;obtain⟨ca,cc,e1,hn1⟩:∃a c,cv=.slice a (ofL its ls).length c/\(a=none->c=0):=by obtain⟨cs,h1,_⟩:=h3.crow;obtain⟨a,c,e,hn,_⟩:=(qj h1).form;exact⟨a,c,by simpa using e,hn⟩
 obtain⟨fa,fc,e2⟩:∃a c,fv=.slice a (ofL its ls).length c:=by obtain⟨a,c,e,_⟩:=(qj h3.frow).form;exact⟨a,c,by simpa using e⟩
 subst e1 e2;exact⟨bc,ca,cc,fa,fc,h1,hn1,h2,h3,h4⟩
theorem zlf{s:ByteArray}{m:Nat}{ls:List Ln}{its:List It}(hr:Zg s m=some (ls,its)):yM ls=.ok its/\(ofL its ls).length<=200/\its.length<=m:=by
 unfold Zg at hr;split at hr
 ·cases hr
 ·split at hr
  ·cases hr
  ·rename_i ls' its' hp;split at hr
   ·cases hr
   ·rename_i hle;cases hr;exact⟨zdY hp,by omega,by omega⟩
end
namespace Bd
open Go.RowKit Go.Deep Sv Lib Go.Sort
theorem zhl(s:ByteArray)(vals:Nat)(v:Int)(w:World)(hw:Lw w)(hr:Zg s 10=none):zR 3 #[.string s,.int .u64 vals,.int .i64 v] w (.bool true):=by
 have HRD0:=zdi s 10 w hw;rw[hr] at HRD0;have HRD:Hid (zR 4 #[.string s,.int .i64 10] w (.tuple #[.pointer none,.agg #[.int .i64 0,.slice none 0 0,.slice none 0 0],.bool false])):=HRD0;have HCO:Hid (∀W,zB w W->zR 5 #[] W (.bool true)):=fun W hb=>zah W (hw.below hb);clear HRD0 hr hw;go_enter Tryz.func3,Tryz.ntmps3;go_wp2_with fail;refine HRD.out.mono ?_;rintro e w1 ⟨rfl,hb1⟩;have HB1:Hid (zB w (w1.alloc (.cells #[.int .i64 0,.slice none 0 0,.slice none 0 0] 27))):=zL hb1;clear hb1 HRD;go_upto_region 2 with fail;generalize w1.alloc (.cells #[.int .i64 0,.slice none 0 0,.slice none 0 0] 27)=W1 at *;go_wp2_with fail;refine(HCO.out W1 HB1.out).mono ?_;rintro e w2 ⟨rfl,hb2⟩;have HB2:Hid (zB w w2):=zT HB1.out hb2;clear hb2 HB1;go_wp2_with fail;refine(HCO.out w2 HB2.out).mono ?_;rintro e w3 ⟨rfl,hb3⟩;have HB3:Hid (zB w w3):=zT HB2.out hb3;clear hb3 HB2 HCO;go_wp2;go_ret;exact⟨rfl,HB3.out⟩
theorem zlQ(s:ByteArray)(vals:Nat)(v:Int)(w:World)(hw:Lw w)(ls:List Ln)(its:List It)(hr:Zg s 10=some (ls,its))(h0:its.length=0):zR 3 #[.string s,.int .u64 vals,.int .i64 v] w (.bool true):=by
 have HRD:=zH (zcK s w hw ls its 10 hr);have HCO:Hid (∀W,zB w W->zR 5 #[] W (.bool true)):=fun W hb=>zah W (hw.below hb);rw[h0] at HRD;clear hr hw h0;go_enter Tryz.func3,Tryz.ntmps3;go_wp2_with fail;refine HRD.out.mono ?_;rintro e w1 ⟨bc,ca,cc,fa,fc,rfl,hnc,hcat,hrs,hb1⟩;have hbn:=Go.Proofs.YtjmfeefogikdfaaGreatDoor.below_new w1 (.cells #[.int .i64 0,.slice ca (ofL its ls).length cc,.slice fa (ofL its ls).length fc] 27);have kr:=Blk.new w1 27 #[.int .i64 0,.slice ca (ofL its ls).length cc,.slice fa (ofL its ls).length fc];have HB1:=zH (zT hb1 hbn);clear hcat hrs hb1 hbn HRD;go_upto_region 2 with fail;generalize w1.alloc (.cells #[.int .i64 0,.slice ca (ofL its ls).length cc,.slice fa (ofL its ls).length fc] 27)=W1 at *;generalize w1.heap.size=b4 at *;go_wp2_with fail;refine(HCO.out W1 HB1.out).mono ?_;rintro e w2 ⟨rfl,hb2⟩;have HB2:Hid (zB w w2):=zT HB1.out hb2;have d0:w2.cell? ⟨b4,0,none⟩=some (.int .i64 0):=(kr.below hb2 kr.lt).cell 0;clear hb2 HB1 kr;go_wp2_with fail;refine(HCO.out w2 HB2.out).mono ?_;rintro e w3 ⟨rfl,hb3⟩;have HB3:Hid (zB w w3):=zT HB2.out hb3;clear hb3 HB2 HCO d0;go_wp2;go_ret;exact⟨rfl,HB3.out⟩
end Bd
namespace Bd
open Go.RowKit Go.Deep
theorem xq{P:Program}{a:Act}{w:World}{Q:Exit->Act->World->Prop}{ops:Array Oper}{o:Oper}{K:Act->World->Prop}{E:Prop}(hgd:o.guard=none)(s x:Operand)(t:TypeId)
  (ho:o.op=.call { callee:=.builtin .append,args:=#[s,x],argTypes:=#[t,t] }) (v u:Value) (hs:a.eval s=v) (hx:a.eval x=u) {R:Value->World->Prop} (hrun:∃v' w',(Builtin.append_ #[t,t] o.type #[v,u]).run P w=.ok v' w'/\R v' w')
  (h:∀v' w',R v' w'->K (a.put o.dst v') w'):if Region.wanted o (yielded ops a.tmps)=true then Oper.wp P o a w K Q else E:=by
 have hw:Region.wanted o (yielded ops a.tmps)=true:=by simp[Region.wanted,hgd]
 rw[if_pos hw];obtain⟨v',w',hr,hR⟩:=hrun;unfold Oper.wp execOp;simp only[ho,resolve,invoke,builtin,Sem.run_bind,Sem.run_pure,Result.andThen_ok,List.map_toArray,List.map_cons,List.map_nil,hs,hx,hr];exact h v' w' hR
theorem zt{W:World}{q:Nat}{t:TypeId}{cs:Array Value}(h:q=W.heap.size):Blk (W.alloc (.cells cs t)) q t cs:=by subst h;exact Blk.new W t cs
theorem zl{W:World}{q:Nat}{t:TypeId}{cs:Array Value}{o:Obj}(h:Blk W q t cs):Blk (W.alloc o) q t cs:=h.alloc o
theorem zc{w X:World}{o:Obj}(h:zB w X):zB w (X.alloc o):=h.alloc h.size o
theorem Zh{w X:World}{q i:Nat}{u:Value}(h:zB w X)(hq:w.heap.size<=q):zB w (X.setCell ⟨q,i,none⟩ u):=h.setCell (p:=⟨q,i,none⟩) hq u
theorem xr{w X:World}(h:zB w X):zB w X.drew:=h.drew
theorem zgw{W:World}{B k:Nat}(hb:Blk W k 43 #[])(hB:B<=k):W.ownsRow B 43 1 (.slice (some ⟨k,0,none⟩) 0 0) 0 [] :=
 ⟨rfl,Or.inr ⟨k,0,#[],rfl,hB,hb,Nat.le_refl _,by unfold maxLen;omega,rfl,rfl⟩⟩
theorem zhm{W:World}{q i:Nat}{v:Value}(h:W.cell? ⟨q,i,none⟩=some v):q<W.heap.size:=by
 by_cases hq:q<W.heap.size
 ·exact hq
 ·rw[World.cell?,Array.getElem?_eq_none (show W.heap.size<=q by omega)] at h;cases h
def zdC(w:World)(bb:Bool)(q e:Value)(wx:World):Prop:=∃qb,q=.pointer (some ⟨qb,0,none⟩)/\e=.nilIface/\wx.cell? ⟨qb,0,none⟩=some (.bool bb)/\zB w wx
abbrev Kps(p:TypeId->Array Value->Prop)(W W':World):Prop:=∀q t cs,p t cs->Blk W q t cs->Blk W' q t cs
theorem yQ{W W':World}(T:Kps (fun _ c=>c≠#[]) W W'){q:Nat}{t:TypeId}{x:Value}{l:List Value}(h:Blk W q t (x :: l).toArray):Blk W' q t (x :: l).toArray:=T _ _ _ (by simp) h
section
set_option maxRecDepth 100000
variable {W:World} {B k:Nat}
theorem Ze{K:List (List Int)}{cs:List Value}{ca:Option Addr}{cc m:Nat}{B0:Nat}(ty:TypeId)(hE:Blk W k 43 #[])(hB:B<=k)(hk:k<W.heap.size)(hrow:W.ownsRow B0 43 1 (.slice ca K.length cc) K.length cs)(hck:zx 0 W cs K)(hn:ca=none->cc=0)(hm:m<=K.length)(hl:K.length<=200) :
  ∃v' W',(Builtin.append_ #[24,24] ty #[.slice (some ⟨k,0,none⟩) 0 0,.slice ca m cc]).run Tryz.prog W=.ok v' W'/\(CO B W' v' (K.take m)/\Kps (fun _ c=>c≠#[]) W W'/\Below B W W'):=by
 obtain⟨ic,hic,hc0,hc1,hc2⟩:=info_parts YQ;have hr0:=zgw hE hB;have hcl:zx 0 W (cs.take m) (K.take m):=by
  refine⟨by rw[List.length_take,List.length_take,hck.1],fun i hi=>?_⟩;rw[List.length_take] at hi;obtain⟨a,cap,h1,h2,h3,h4⟩:=hck.2 i (by omega);have e:(K.take m).getD i []=K.getD i []:=by simp[List.getD_eq_getElem?_getD,show i<m by omega]
  rw[e,List.getElem?_take,if_pos (by omega)];exact⟨a,cap,h1,h2,h3,h4⟩
 have key:∀ W',W.grownBy W' (some k)->Kps (fun _ c=>c ≠ #[]) W W':=fun W' hg q t c hc hq=>hq.kept hg (fun e=>hc (by
  obtain rfl:q=k:=Option.some.inj e;have hq':W.heap[q]?=_:=hq;rw[show W.heap[q]?=_ from hE] at hq';simp only[Option.some.injEq,Obj.cells.injEq] at hq';exact hq'.1.symm))
 cases ca with
 |none =>
  obtain rfl:=hn rfl;have h0:K.length=0:=by
   rcases hrow.2 with ⟨_,e⟩|⟨g,cap,cur,e,_⟩
   ·exact e
   ·cases e
  obtain rfl:m=0:=by omega
  refine⟨_,_,run_append_owned_none _ B 24 ty 43 ic 1 Tryz.underlying24 hic _ 0 [] hr0,⟨[],by simpa using hr0,by simpa using zx.nil⟩,fun _ _ _ _ h=>h,Below.refl _ _⟩
 |some ad =>
  have hcell:∀j u,(cs.take m)[j]?=some u->W.cell? (ad.add j)=some u:=fun j u hj=>by
   have hjm:j<(cs.take m).length:=(List.getElem?_eq_some_iff.1 hj).1;rw[List.length_take,hck.1] at hjm;rw[List.getElem?_take,if_pos (by omega)] at hj;rcases hrow.2 with ⟨e,_⟩|⟨g,cap,cur,e,_,hg,_⟩
   ·cases e
   ·injection e with e1 e2 e3;obtain rfl:=Option.some.inj e1;subst e3;have:=hrow.cellAt j (by omega);rw[add_plain,Nat.zero_add,this];exact hj
  obtain⟨v',W',h1,h2,h3,-,-⟩:=run_append_own_at (P:=Tryz.prog) W B 24 ty 43 ic (.slice none 0 0) 1 24 Tryz.underlying24 hic hc0 hc1 hc2 rfl (by decide) _ 0 [] hr0 ad m cc (cs.take m) (by rw[List.length_take,hck.1];omega) hcell hcl.one (by unfold maxLen;omega) (by omega) (by omega);have h2':W'.ownsRow B 43 1 v' (K.take m).length (cs.take m):=by rw[List.length_take,show min m K.length=m by omega];simpa using h2
  refine⟨v',W',h1,⟨_,h2',hcl.kp ?_⟩,key W' h3,zF.grown h3 (by omega) (fun j hj=>?_)⟩
  ·exact Kp.grown (B:=0) (ownsRow_base hr0 (Nat.zero_le _)) h3 (by decide)
  ·have:some k=some j:=hj;obtain rfl:=Option.some.inj this;exact hB
theorem XU{L:List (List Int)}{v1:Value}{kB kC:Nat}{x:Int}(ty:TypeId)(hco:CO B W v1 L)(hC:Blk W kC 43 #[.slice (some ⟨kB,0,none⟩) 1 1])(hBk:Blk W kB 3 #[.int .i64 x])(hsz:B<=W.heap.size)(hl:L.length<=200) :
  ∃v' W',(Builtin.append_ #[24,24] ty #[v1,.slice (some ⟨kC,0,none⟩) 1 1]).run Tryz.prog W=.ok v' W'/\((∃a n c,v'=.slice a n c/\n=(L++[[x]]).length/\(a=none->c=0)/\qY W' a (L++[[x]]))/\Kps (fun t _=>t≠43) W W'/\Below B W W'):=by
 obtain⟨ic,hic,hc0,hc1,hc2⟩:=info_parts YQ;obtain⟨cs,hrow,hck⟩:=hco;have hints:qA 0 W (some ⟨kB,0,none⟩) [x]:=fun i hi=>by
  have:i=0:=by simp at hi;omega
  subst this;exact⟨_,rfl,hBk.lt,Or.inr ⟨_,_,hBk⟩,by rw[add_plain];exact hBk.cell 0⟩
 obtain ⟨v',W',h1,h2,h3,-,-⟩:=run_append_own_at (P:=Tryz.prog) W B 24 ty 43 ic (.slice none 0 0) 1 24 Tryz.underlying24 hic hc0 hc1 hc2 rfl (by decide) v1 L.length cs hrow ⟨kC,0,none⟩ 1 1 [.slice (some ⟨kB,0,none⟩) 1 1] (by simp) (fun j u hj=>by
   have:j=0:=by have:=(List.getElem?_eq_some_iff.1 hj).1;simp at this;omega
   subst this;rw[add_plain,hC.cell];exact hj) (fun u hu=>by rw [List.mem_singleton] at hu;subst hu;rfl) (by unfold maxLen;omega) (by omega) hsz
 have hkp:Kp 0 W W':=Kp.grown (ownsRow_base hrow (Nat.zero_le _)) h3 (by decide);have hcl:=(hck.kp hkp).snoc (a:=some ⟨kB,0,none⟩) (cap:=1) (c:=[x]) (by simp) (by omega) (hints.kp hkp);have h2':W'.ownsRow B 43 1 v' (L++[[x]]).length (cs++[.slice (some ⟨kB,0,none⟩) 1 1]):=by rw[List.length_append];exact h2
 obtain⟨a,c,rfl,-,-⟩:=row_form h2';refine⟨_,W',h1,⟨a,_,c,rfl,rfl,zfF h2',zx.cls (B:=0) (cap:=c) hcl (ownsRow_base h2' (Nat.zero_le _))⟩,fun q t c ht hq=>hq.kept h3 (fun e=>qH hrow hq ht e.symm),zF.grown h3 hsz (fun j hj=>(hrow.lt j hj).1)⟩
end
end Bd
namespace Bd
open Go
theorem qh{P:Program}{md:Region.Mode}{ops:Array Oper}{Q:Exit->Act->World->Prop}{S:World->Prop}{fuel:Nat}{l:Array Bool}{a:Act}{w:World}(J:Array Oper->(Exit->Act->World->Prop)->(World->Prop)->Array Bool->Act->Prop)(h1:J ops Q S l a)(h2:J ops Q S l a->wpAnyH P md ops Q S fuel l a w):wpAnyH P md ops Q S fuel l a w:=h2 h1
theorem zn{P:Program}{md:Region.Mode}{ops:Array Oper}{Q:Exit->Act->World->Prop}{S:World->Prop}{fuel:Nat}{l l':Array Bool}{a:Act}{w:World}(h:wpAnyH P md ops Q S fuel l a w)(e:l=l'):wpAnyH P md ops Q S fuel l' a w:=e▸h
end Bd
namespace Bd
open Go.RowKit Go.Deep Sv Lib Go.Sort
theorem zmT(n:Nat)(hn:n<=10)(K:List (List Int))(hl:zU n K)(hc:(qU n K).1=0)(hm:K.length<=9223372036854775807)(a:Option Addr)(cap:Nat)(h0:a=none->cap=0)(w:World)(hI:qY w a K) :
  zC 10 #[.int .i64 n,.slice a K.length cap] w fun e w'=>∃nn pa pn pc,e=.returned (.tuple #[.agg #[.bool (xD K),.int .u64 nn,.slice pa pn pc],.nilIface])/\zB w w' :=
 (zkB n K a cap h0 w hI hm hc).mono fun e w' ⟨b,nn,pa,pn,pc,er,he,hce,hb⟩=>by
  obtain⟨rfl,rfl⟩:=zfg (by omega) hl (fun r hr=>zh4 hn hl hr) hce;exact⟨nn,pa,pn,pc,he,hb⟩
end Bd
section
open Go.RowKit Go.Deep
def Zx(x:Int)(n:Nat):Nat:=((x%18446744073709551616).toNat)%n
theorem zbp(x:Int){n:Nat}(h:0<n):Zx x n<n:=Nat.mod_lt _ h
theorem zjX(x:Int)(n:Nat)(h0:0<n)(h1:n<=1000000)(w:World) :
  zC 9 #[.int .i64 x,.int .i64 n] w fun e w'=>e=.returned (.int .i64 (Zx x n))/\w=w':=by
 have hp:=zbp x h0;have e1:IntKind.u64.wrap x=x%18446744073709551616:=by rw[IntKind.wrap_u64]
 have e2:IntKind.u64.wrap (n:Int)=(n:Int):=IntWalk.u64_in _ ⟨by omega,by omega⟩;have e3:Int.tmod (x%18446744073709551616) (n:Int)=(Zx x n:Int):=by
  unfold Zx;obtain⟨m,hm⟩:∃m:Nat,x%18446744073709551616=(m:Int):=⟨(x%18446744073709551616).toNat,by omega⟩;rw[hm];simp;rfl
 have e4:IntKind.i64.wrap (Zx x n:Int)=(Zx x n:Int):=IntWalk.i64_in _ ⟨by omega,by omega⟩;have e5:((n:Int)==0)=false:=by rw[beq_eq_false_iff_ne];omega
 generalize Zx x n=p at *;go_enter Tryz.func9,Tryz.ntmps9;go_wp2;go_ret;exact⟨rfl,rfl⟩
end
end Go.Proofs.YtjmfeefogikdfaaGreatDoor

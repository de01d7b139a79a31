/- The text of a catalog of two lines that can't be together: plain. -/
import Derived.Test.YtapobpgbcbplbaaGreatDoorSrPdq
namespace Go.Proofs.YtapobpgbcbplbaaGreatDoor
set_option maxHeartbeats 4000000
set_option maxRecDepth 100000
namespace Fm
open Go.RowKit Go.Maps Go.Proofs.YtapobpgbcbplbaaGreatDoor.Bd Go.Sort Go.Proofs.YtapobpgbcbplbaaGreatDoor.Sr
theorem zaK:∀(n v:Nat),(yC n v).Nodup
  |0,v=>by unfold yC;simp
  |n+1,v=>by
    have low:∀y∈yC n (v+1),y.testBit v=false:=fun y hy=>XJ n (v+1) y hy v (by omega);rw[Jo,List.nodup_append];refine⟨zaK n (v+1),?_,fun x hx y hy e=>?_⟩
    · refine(List.pairwise_map.2 ?_:List.Nodup _)
      refine(zaK n (v+1)).imp_of_mem ?_;intro x y hx hy hne e;rw[Kr (low x hx),Kr (low y hy)] at e;have e2:(x^^^2^v)^^^2^v=(y^^^2^v)^^^2^v:=by rw[e]
      rw[Nat.xor_assoc,Nat.xor_self,Nat.xor_zero,Nat.xor_assoc,Nat.xor_self,Nat.xor_zero] at e2;exact hne e2
    · subst e
      obtain⟨z,hz,rfl⟩:=List.mem_map.1 hy;have:=low _ hx;rw[Nat.testBit_or,Nat.testBit_two_pow] at this;simp at this
theorem znV{vars:Nat}{ns:List Nd}(hg:zI vars ns)(hv:vars<=24){h:Int}(hh:ze ns h=true):(stL ns h 0).Nodup:=by
  rw[JA hg hv hh];exact(zaK vars 0).filter _
theorem zaq:∀(n v x:Nat),(∀i,i<v\/v+n<=i->x.testBit i=false)->x∈yC n v
  |0,v,x,h=>by
    have:x=0:=Nat.eq_of_testBit_eq fun i=>by rw[Nat.zero_testBit];exact h i (by omega)
    subst this;unfold yC;simp
  |n+1,v,x,h=>by
    rw[Jo,List.mem_append];cases hb:x.testBit v with
    | false=>exact .inl (zaq n (v + 1) x (fun i hi=>by
        by_cases e:i=v
        · subst e;exact hb
        · exact h i (by omega)))
    |true =>
      refine .inr (List.mem_map.2 ⟨x^^^2^v,zaq n (v+1) _ (fun i hi=>?_),?_⟩)
      · rw[Nat.testBit_xor,Nat.testBit_two_pow]
        by_cases e:i=v
        · subst e;simp[hb]
        · have:=h i (by omega)
          simp[this];omega
      · have hf:(x^^^2^v).testBit v=false:=by rw[Nat.testBit_xor,Nat.testBit_two_pow];simp[hb]
        rw[Kr hf,Nat.xor_assoc,Nat.xor_self,Nat.xor_zero]
theorem zhm{vars:Nat}{ns:List Nd}(hg:zI vars ns)(hv:vars<=24){h:Int}(hh:ze ns h=true)(x:Nat):x∈stL ns h 0↔In ns h x:=by
  rw[JA hg hv hh,List.mem_filter];constructor
  · exact fun h=>h.2
  · intro hi
    refine⟨zaq vars 0 x (fun i hi2=>?_),hi⟩;rcases hi2 with h|h
    · omega
    · cases hb:x.testBit i with
      |false=>rfl
      |true=>have:=ziI hg hi hb;omega
def xd(l:List Nat):Array Int:=(l.map fun x:Nat=>(x:Int)).toArray
theorem Y9(l:List Nat):(xd l).size=l.length:=by simp[xd]
theorem zd8(l:List Nat)(i:Nat)(h:i<l.length):(xd l)[i]! = ((l.getD i 0:Nat):Int):=by
  unfold xd;rw[getElem!_pos _ i (by simpa using h)];simp[List.getD_eq_getElem?_getD,List.getElem?_eq_getElem h]
theorem zmR{l:List Nat}{d':Array Int}(hn:l.Nodup)(hp:PermIn 0 l.length (xd l) d')(hs:SortedIn ltInt 0 l.length d') :
    ∃L:List Nat,L.length=l.length/\d'=xd L/\L.Pairwise (·<·)/\∀x,x∈L↔x∈l:=by
  have hsz:d'.size=l.length:=hp.1.trans (Y9 l);have h3:=hp.2.2;have e1:d'.extract 0 l.length=d':=by rw[<-hsz];exact Array.extract_size
  have e2:(xd l).extract 0 l.length=xd l:=by rw[<-Y9 l];exact Array.extract_size
  rw[e1,e2] at h3;have hperm:d'.toList.Perm (l.map fun x:Nat=>(x:Int)):=h3;refine⟨d'.toList.map Int.toNat,by simp[hsz],?_,?_,?_⟩
  · unfold xd
    rw[List.map_map];have:d'.toList.map ((fun x:Nat=>(x:Int)) ∘ Int.toNat)=d'.toList:=by
      conv=>rhs;rw[<-List.map_id d'.toList]
      apply List.map_congr_left;intro x hx;obtain⟨y,_,rfl⟩:=List.mem_map.1 (hperm.mem_iff.1 hx);simp
    rw[this]
  · have hnd:d'.toList.Nodup:=hperm.symm.nodup (List.pairwise_map.2 (hn.imp (fun {a b} h e=>h (by have:(a:Int)=(b:Int):=e;omega))))
    rw[List.pairwise_map,List.pairwise_iff_getElem];intro i j hi hj hij;have hi':i<d'.size:=by simpa using hi
    have hj':j<d'.size:=by simpa using hj
    have h1:=hs i j (Nat.zero_le _) hij (by omega);rw[getElem!_pos _ j hj',getElem!_pos _ i hi'] at h1;have h2:¬d'[j]<d'[i]:=by simpa[ltInt] using h1
    have h4:d'[i]≠d'[j]:=by
      have:=List.pairwise_iff_getElem.1 hnd i j hi hj hij;simpa using this
    have n1:0<=d'[i]:=by
      obtain⟨y,_,e⟩:=List.mem_map.1 (hperm.mem_iff.1 (show d'[i]∈d'.toList by simp));omega
    show (d'.toList[i]).toNat<(d'.toList[j]).toNat;simp only[Array.getElem_toList];omega
  · intro x
    rw[List.mem_map];constructor
    · rintro⟨y,hy,rfl⟩
      obtain⟨z,hz,rfl⟩:=List.mem_map.1 (hperm.mem_iff.1 hy);simpa using hz
    · intro hx
      exact⟨(x:Int),hperm.mem_iff.2 (List.mem_map.2 ⟨x,hx,rfl⟩),by simp⟩
theorem JX(g cap:Nat)(l:List Nat)(hn:l.Nodup)(h1:0<l.length)(h2:l.length<256)(w:World)(h:UR w g (xd l)) :
    zC 48 #[.slice (some ⟨g,0,none⟩) l.length cap] w fun e w'=>∃L:List Nat,e=.returned (.tuple #[])/\L.length=l.length/\UR w' g (xd L)/\L.Pairwise (·<·)/\(∀x,x∈L↔x∈l)/\KG g w w':=by
  have HB:=zH (Tryz.bits_Len (l.length:Int) w (by omega) (by omega));have hbl:(Lib.bitLen ((l.length:Int)).toNat)=bitsLen l.length:=by rw[Int.toNat_natCast];exact zdg ⟨_,h2⟩
  have hk:bitsLen l.length<=1000:=by
    have:=two_pow_bitsLen_le h1;have h3:2^bitsLen l.length<2^10:=by omega
    have:=(Nat.pow_lt_pow_iff_right (by decide)).1 h3;omega
  rw[hbl] at HB;have HP:=zH (zbI g cap l.length h2 (l.length+1) 0 l.length (bitsLen l.length) (xd l) w (by omega) h (Y9 l) (Nat.zero_le _) zN (Or.inl rfl) hk);unfold ZG at HP;generalize bitsLen l.length=k at *;have w1:IntKind.u64.wrap (l.length:Int)=(l.length:Int):=IntWalk.u64_in _ ⟨by omega,by omega⟩;have HN:=zH hn;clear h hn hbl;go_enter Tryz.func48,Tryz.ntmps48;go_wp2_with fail;refine HB.out.mono ?_;rintro e w' ⟨rfl,rfl⟩;go_wp2_with fail;refine HP.out.mono ?_;rintro e w2 ⟨d',rfl,hd,hU,hPm,hS,hK⟩;obtain⟨L,e1,rfl,e3,e4⟩:=zmR HN.out hPm hS;have HF:Hid (∃L':List Nat,L'.length=l.length/\UR w2 g (xd L')/\L'.Pairwise (·<·)/\(∀x,x∈L'↔x∈l)/\KG g w' w2):=⟨L,e1,hU,e3,e4,hK⟩;clear HP hd hU hPm hS hK e1 e3 e4 HB;go_wp2
  first|refine bodyPost_end (v:=.tuple #[]) (by first|simp[results,go_sem]|simp[results,Tryz.results48,go_sem]) rfl ?_|refine bodyPost_ret (v:=.tuple #[]) (by first|simp[results,go_sem]|simp[results,Tryz.results48,go_sem]) rfl ?_
  obtain⟨L',h⟩:=HF.out
  first|exact⟨rfl,L',h⟩|exact⟨L',rfl,h⟩
theorem zkn(a:Option Addr)(c:Nat)(w:World):zC 127 #[.slice a 0 c,.int .i64 0,.int .i64 0] w fun e w'=>e=.returned (.tuple #[])/\w'=w:=by
  go_enter Tryz.func127,Tryz.ntmps127;go_wp2_with fail;refine wp_loop_rounds 1 ?_;rw[rounds_succ];go_wp2
  first|refine bodyPost_end (v:=.tuple #[]) (by first|simp[results,go_sem]|simp[results,Tryz.results127,go_sem]) rfl ?_|refine bodyPost_ret (v:=.tuple #[]) (by first|simp[results,go_sem]|simp[results,Tryz.results127,go_sem]) rfl ?_
  exact⟨rfl,rfl⟩
theorem zlG(a:Option Addr)(c:Nat)(k:Int)(w:World):zC 79 #[.slice a 0 c,.int .i64 0,.int .i64 0,.int .i64 k] w fun e w'=>e=.returned (.tuple #[])/\w'=w:=by
  have HI:=zH (zkn a c w);go_enter Tryz.func79,Tryz.ntmps79;go_wp2_with fail;refine wp_loop_rounds 1 ?_;rw[rounds_succ];go_wp2_with fail;refine HI.out.mono ?_;rintro e w' ⟨rfl,rfl⟩;go_wp2
  first|refine bodyPost_ret (v:=.tuple #[]) (by first|simp[results,go_sem]|simp[results,Tryz.results79,go_sem]) rfl ?_|refine bodyPost_end (v:=.tuple #[]) (by first|simp[results,go_sem]|simp[results,Tryz.results79,go_sem]) rfl ?_
  exact⟨rfl,rfl⟩
theorem zlH(a:Option Addr)(c:Nat)(w:World):zC 48 #[.slice a 0 c] w fun e w'=>e=.returned (.tuple #[])/\w'=w:=by
  have HB:=zH (Tryz.bits_Len 0 w (by omega) (by omega));have HP:=zH (zlG a c (Lib.bitLen ((0:Int)).toNat) w);generalize Lib.bitLen ((0:Int)).toNat=k at *;go_enter Tryz.func48,Tryz.ntmps48;go_wp2_with fail;refine HB.out.mono ?_;rintro e w' ⟨rfl,rfl⟩;go_wp2_with fail;refine HP.out.mono ?_;rintro e w2 ⟨rfl,rfl⟩;go_wp2
  first|refine bodyPost_end (v:=.tuple #[]) (by first|simp[results,go_sem]|simp[results,Tryz.results48,go_sem]) rfl ?_|refine bodyPost_ret (v:=.tuple #[]) (by first|simp[results,go_sem]|simp[results,Tryz.results48,go_sem]) rfl ?_
  exact⟨rfl,rfl⟩
section
variable {B s b:Nat} {O:Nat->Prop} {vars room:Nat} {ns:List Nd}
def Kv(ns:List Nd)(h:Int)(w:World)(e:Ending)(w':World):Prop:=∃(L:List Nat) (a:Option Addr) (c:Nat),e=.returned (.tuple #[.slice a L.length c,.nilIface])/\(∀W,zB w' W->UArg W (.slice a L.length c) L)/\L.Pairwise (·<·)/\(∀x,x∈L↔In ns h x)/\L.length=nsN ns h/\zB w w'
theorem UArg.of_ur{w:World}{g c:Nat}{L:List Nat}(h:UR w g (xd L)):UArg w (.slice (some ⟨g,0,none⟩) L.length c) L :=
  ⟨_,_,rfl,fun i hi=>⟨g,rfl,h.lt,by rw[h.cell i (by rw[Y9];exact hi),zd8 L i hi]⟩⟩
theorem UR.of_row{N g c:Nat}{w:World}{l:List Nat}(h:w.ownsRow N 68 1 (.slice (some ⟨g,0,none⟩) l.length c) l.length (yy l)):UR w g (xd l):=by
  refine⟨(h.lt g rfl).2,fun j hj=>?_,fun j hj=>?_⟩
  · rw[Y9] at hj
    have:=h.cellAt j (by omega);rw[zaC l j hj] at this;rw[zd8 l j hj];exact this
  · obtain⟨g',cap,cur,e,h2,h3,h4⟩:=h.2.resolve_left (fun e=>by simp at e)
    cases e;exact Blk.frozen (W:=w) (b:=g) (t:=68) (cs:=cur) h3 j
theorem zfN(w:World)(hF:qH B w s b O vars room ns)(h:Int)(hh:ze ns h=true)(most:Int)(hm:(nsN ns h:Int)<=most)(hn64:nsN ns h<=128) :
    zC 23 #[.pointer (some ⟨s,0,none⟩),.int .i64 h,.int .i64 most] w (Kv ns h w):=by
  have HL:=zH (zb9 w hF h hh most hm);have hlen:=hF.len;have hln:nsN ns h=(stL ns h 0).length:=zeL ns h 0;have hl6:(stL ns h 0).length<=128:=by omega
  have HND:=zH (znV hF.good hF.v24 hh);have HMM:Hid (∀x,x∈stL ns h 0↔In ns h x):=fun x=>zhm hF.good hF.v24 hh x;have HST:Hid (∀W,zB w W->zC 47 #[.pointer (some ⟨s,0,none⟩),.int .i64 h,.int .u64 0,.slice none 0 0] W (Zr w.heap.size (stL ns h 0) (.slice none 0 0) W)):=fun W hW=>by
    have:=zcN (B:=B) (N:=w.heap.size) (s:=s) (b:=b) (O:=O) (vars:=vars) (room:=(room:Int)) hF.good.ranked (by omega) (fun k hk=>(hF.space.own k hk).2) hF.space.slt 24 W (hF.space.new hW) hW.size h hh (by have:=(qh hF.good.ranked h).1;omega) 0 (by decide) [] (by decide) none 0 (World.ownsRow_nil _ _ _ _);exact this
  have HOUT:Hid (∀(L:List Nat) (a:Option Addr) (c:Nat) (e:Ending) (w':World),e=.returned (.tuple #[.slice a L.length c,.nilIface])->UArg w' (.slice a L.length c) L->L.Pairwise (·<·)->(∀x,x∈L↔x∈stL ns h 0)->L.length=(stL ns h 0).length->zB w w'->Kv ns h w e w'):=fun L a c e w' h1 h2 h3 h4 h5 h6=>⟨L,a,c,h1,fun W hW=>h2.below hW,h3,fun x=>(h4 x).trans (HMM.out x),by rw[h5,hln],h6⟩;unfold Zr at HST;generalize stL ns h 0=l at *;clear hF hh hm hlen hln HMM hn64;go_enter Tryz.func23,Tryz.ntmps23;go_wp2_with fail;refine HL.out.mono ?_;rintro e w1 ⟨rfl,hb1⟩;clear HL;go_wp2_with fail;refine(HST.out _ hb1).mono ?_;rintro e w2 ⟨a2,c2,rfl,hrow,hk,-⟩;have hb2:zB w w2:=hb1.trans (hk.below hb1.size (fun i hi=>by simp[Value.ownBlock] at hi));have HB2:=zH hb2
  by_cases hz:l=[]
  · subst hz
    have HS:=zH (zlH a2 c2 w2);have HF:=zH (HOUT.out [] a2 c2 _ w2 rfl ⟨a2,c2,rfl,fun i hi=>absurd hi (Nat.not_lt_zero _)⟩ List.Pairwise.nil (fun x=>Iff.rfl) rfl hb2);clear hrow hk hb2 HST HOUT hb1;simp only[List.length_nil] at HF ⊢;go_wp2_with fail;refine HS.out.mono ?_;rintro e w3 ⟨rfl,rfl⟩;clear HS;go_wp2;refine bodyPost_ret (v:=.tuple #[.slice a2 0 c2,.nilIface]) (by simp[results,Tryz.results23,go_sem]) rfl HF.out
  · have hpos:0<l.length:=by cases l<;>simp_all
    obtain⟨g,rfl,hU,-,-⟩:=zg3 hrow hpos;have HS:=zH (JX g c2 l HND.out hpos (by omega) w2 (UR.of_row hrow));have HGE:Hid (w.heap.size<=g):=(hrow.lt g rfl).1;clear hrow hk hb2 HST hU hb1 hz;go_wp2_with fail;refine HS.out.mono ?_;rintro e w3 ⟨L,rfl,hL,hU3,h3,h4,hK⟩;have HF:=zH (HOUT.out L (some ⟨g,0,none⟩) c2 _ w3 rfl (UArg.of_ur hU3) h3 h4 hL (HB2.out.trans (hK.below HB2.out.size (fun i e=>by rw[e];exact HGE.out))));rw[hL] at HF;clear hU3 h3 h4 hK HS HOUT hL;go_wp2;refine bodyPost_ret (v:=.tuple #[.slice (some ⟨g,0,none⟩) l.length c2,.nilIface]) (by simp[results,Tryz.results23,go_sem]) rfl HF.out
theorem zkI(w:World)(hF:qH B w s b O vars room ns)(hv6:vars<=7)(h:Int)(hh:ze ns h=true)(most:Int)(hm:(nsN ns h:Int)<=most) :
    zC 23 #[.pointer (some ⟨s,0,none⟩),.int .i64 h,.int .i64 most] w (Kv ns h w) :=
  zfN w hF h hh most hm (by
    have:=zaV hF.good hF.v24 hh;have p6:2^vars<=128:=Nat.pow_le_pow_right (n:=2) (by omega) hv6;omega)
end
end Fm
namespace Fm
open Go.RowKit Go.Maps Go.Proofs.YtapobpgbcbplbaaGreatDoor.Bd
def zl6(vars:Int)(l:List Nat)(w:World)(e:Ending)(w':World):Prop :=
  zB w w' /\
  (((vars<0\/24<vars)/\e=.returned (.tuple #[.slice none 0 0,.iface 64 (.int .i64 2)])) \/
   (0<=vars/\vars<=24/\200<l.length/\e=.returned (.tuple #[.slice none 0 0,.iface 64 (.int .i64 4)])) \/
   (0<=vars/\vars<=24/\l.length<=200/\(∃x∈l,¬x<2^vars.toNat)/\e=.returned (.tuple #[.slice none 0 0,.iface 64 (.int .i64 2)])) \/
   (0<=vars/\vars<=24/\l.length<=200/\(∀ x ∈ l,x<2 ^ vars.toNat)/\∃ v m,e=.returned (.tuple #[v,.nilIface])/\(∀ W,zB w' W->UArg W v m)/\m.Pairwise (·<·)/\m.length<=128/\∀ y,y ∈ m ↔ opP .hits (fun x=>x ∈ l) (fun _=>False) y))
theorem zmB(k:K):zj 5 k<=301:=by cases k<;>decide
theorem reiter_any(vars:Int)(hv:vars<0\/24<vars\/vars<=7)(l:List Nat)(v:Value)(w:World)(hx:UIn w v l)(h64:∀x∈l,x<2^64)(hl:l.length<=40\/200<l.length) :
    zC 8 #[.int .i64 vars,v] w (zl6 vars l w):=by
  obtain⟨a,cap,rfl,hx⟩:=hx
  by_cases hbad:vars<0\/24<vars
  · have HN:=zH (zfT vars hbad 4000 w)
    clear hx;go_enter Tryz.func8,Tryz.ntmps8;go_wp2_with fail;refine HN.out.mono ?_;rintro e w1 ⟨rfl,rfl⟩;go_wp2;go_ret2;exact⟨Below.refl _ _,.inl ⟨hbad,rfl⟩⟩
  · obtain⟨n,rfl⟩:∃n:Nat,vars=(n:Int):=⟨vars.toNat,by omega⟩
    have hv6:n<=7:=by omega
    have p6:2^n<=128:=Nat.pow_le_pow_right (n:=2) (by omega) hv6;have HN:Hid (zC 20 #[.int .i64 n,.int .i64 4000] w fun e w'=>∃s b O,e=.returned (.tuple #[.pointer (some ⟨s,0,none⟩),.nilIface])/\qH w.heap.size w' s b O n 4000 []/\w.heap.size<=s/\(∀k,O k->w.heap.size<=k)/\zB w w'):=zhF n 4000 (by omega) (by omega) w w.heap.size zN;have HX:=zH hx;clear hx hv hbad;go_enter Tryz.func8,Tryz.ntmps8;go_wp2_with fail;refine HN.out.mono ?_;rintro e w1 ⟨s,b,O,rfl,hS,hs,hO,hb1⟩;clear HN
    by_cases hlen:200<l.length
    · have i1:((l.length:Nat):Int)>200:=by omega
      clear hS hO;go_wp2;go_ret2;exact⟨hb1,.inr (.inl ⟨by omega,by omega,hlen,rfl⟩)⟩
    · have hl30:l.length<=40:=by omega
      have i1:¬((l.length:Nat):Int)>200:=by omega
      have HG:=zH (ziW hS hv6 l a cap (fun i hi=>by
        obtain⟨g,h1,h2,h3⟩:=HX.out i hi;exact ⟨g,h1,Nat.lt_of_lt_of_le h2 hb1.size,(hb1.cell (p:=g.add i) (by rw [XN];exact h2)).trans h3,fun ho=>by have:=hO g.block ho;omega⟩) h64 hl30 rfl (by omega))
      unfold zbb at HG;have HO:=zH hO;have HB1:=zH hb1;clear hS hO hb1;go_wp2_with fail;refine HG.out.mono ?_;rintro e w2 (⟨h,ns,O2,rfl,hF,mv,hh,hm,hc,hr⟩|⟨O2,rfl,mv,hr⟩)
      · have HB2:=zH (HB1.out.trans (mv.below HB1.out.size HO.out))
        have hch:=zmB .hits;have hcr:=zaA (show rr n (-1)<=5 by unfold rr;omega) .hits;have n1:nsN ns h<=65536:=by have:=zaV hF.good hF.v24 hh;omega
        have HH:=zH (zfR hF hh n1 (by omega));have HM:=zH hm;have HO2:Hid (∀k,O2 k->w.heap.size<=k):=fun k hk=>(mv.own k hk).elim (HO.out k) (fun h=>Nat.le_trans HB1.out.size h);clear HG hF mv hh hm hc n1 hch hcr;go_wp2_with fail;refine HH.out.mono ?_;rintro e w3 ⟨x1,ns1,O3,rfl,hF1,mv1,e1,h1,m1,k1⟩;have n2:nsN ns1 x1<=128:=by have:=zaV hF1.good hF1.v24 h1;omega
        have HL:=zH (zkI w3 hF1 hv6 x1 h1 5000 (by omega));unfold Kv at HL;have HB3:Hid (zB w w3):=HB2.out.trans (mv1.below HB2.out.size HO2.out);have HM1:=zH m1;have HN2:=zH n2;clear HH hF1 mv1 e1 h1 m1 k1 n2;go_wp2_with fail;refine HL.out.mono ?_;rintro e w4 ⟨L,a4,c4,rfl,hu,hs4,hmem,hln,hb4⟩;have HB4:=zH (zT HB3.out hb4);have HU:=zH hu;have hl64:L.length<=128:=by have:=HN2.out;omega
        have HL64:=zH hl64;have HS4:=zH hs4;have HME:=zH hmem;clear HL HB3 HB2 hb4 hu hln hl64 hs4 hmem;go_wp2;go_ret2;exact ⟨HB4.out,.inr (.inr (.inr ⟨by omega,by omega,by omega,hr,_,L,rfl,HU.out,HS4.out,HL64.out,fun y=>by
          rw[HME.out,HM1.out];exact xZ .hits HM.out (fun y=>⟨fun h=>QK y h,fun h=>h.elim⟩) y⟩))⟩
      · have HB2:=zH (HB1.out.trans (mv.below HB1.out.size HO.out))
        clear HG mv;go_wp2;go_ret2;exact⟨HB2.out,.inr (.inr (.inl ⟨by omega,by omega,by omega,hr,rfl⟩))⟩
end Fm
section
open Go.RowKit Go.Deep Sv
def nmA:ByteArray:=⟨#[97]⟩
def nmN:ByteArray:=⟨#[]⟩
theorem ziF:Qp ⟨#[112,97,99,107,97,103,101,32,97,32,49,46,48,46,48]⟩=.ok ⟨1,nmA,1,0,0,nmN,[]⟩:=by kernel_rfl
theorem zhz:Qp ⟨#[114,111,111,116,32,97,32,97,110,121]⟩=.ok ⟨4,nmA,0,0,0,nmN,[(0,1000000000)]⟩:=by kernel_rfl
theorem Ke:zV nmA:=by
  refine⟨by decide,by decide,by decide,by rw[ByteArray.toList_eq];decide,by rw[ByteArray.toList_eq];decide,fun k hk=>?_⟩;obtain rfl:k=0:=by have:nmA.size=1:=rfl;omega
  left;decide
theorem zmm:qJ ⟨1,nmA,1,0,0,nmN,[]⟩=0:=by
  unfold qJ;rw[if_neg (by simp),if_neg (fun h=>by rcases h with h|⟨h,_⟩;exact h Ke;simp[Ln.pair] at h),if_neg (fun h=>h.2 rfl),if_neg (by simp),if_neg (by simp),if_neg (by simp[InV])]
theorem zhW:qJ ⟨4,nmA,0,0,0,nmN,[(0,1000000000)]⟩=0:=by
  unfold qJ;rw[if_neg (by simp),if_neg (fun h=>by rcases h with h|⟨h,_⟩;exact h Ke;simp[Ln.pair] at h),if_neg (fun h=>h.2 rfl),if_neg (by simp),if_neg (by simp),if_neg (by simp[InV])]
theorem zm7:¬(8<qX ([]++[(⟨nmA,1,0,0⟩:It)])\/([]:List It).length=24):=by
  have:qX ([]++[(⟨nmA,1,0,0⟩:It)])=1:=by kernel_rfl
  rw[this];simp
end
section
open Go.RowKit Go.Deep Sv
def Qj:ByteArray:=⟨#[112,97,99,107,97,103,101,32,97,32,49,46,48,46,48,10,114,111,111,116,32,97,32,97,110,121,10,99,108,97,115,104,101,115,32,97,32,49,46,48,46,48,32,97,32,97,110,121,10]⟩
theorem zj1:qK Qj 49 0=[(0,⟨#[112,97,99,107,97,103,101,32,97,32,49,46,48,46,48]⟩),(16,⟨#[114,111,111,116,32,97,32,97,110,121]⟩),(27,⟨#[99,108,97,115,104,101,115,32,97,32,49,46,48,46,48,32,97,32,97,110,121]⟩)]:=by kernel_rfl
theorem zkH:Qp ⟨#[99,108,97,115,104,101,115,32,97,32,49,46,48,46,48,32,97,32,97,110,121]⟩=.ok ⟨3,nmA,1,0,0,nmA,[(0,1000000000)]⟩:=by kernel_rfl
def qw:List Ln:=[⟨1,nmA,1,0,0,nmN,[]⟩,⟨4,nmA,0,0,0,nmN,[(0,1000000000)]⟩,⟨3,nmA,1,0,0,nmA,[(0,1000000000)]⟩]
def qs:List It:=[⟨nmA,1,0,0⟩]
theorem zig:qJ ⟨3,nmA,1,0,0,nmA,[(0,1000000000)]⟩=0:=by
  unfold qJ;rw[if_neg (by simp),if_neg (fun h=>by rcases h with h|⟨_,h⟩;exact h Ke;exact h Ke),if_neg (fun h=>h.1 (Or.inr rfl)),if_neg (by simp),if_neg (by simp),if_neg (by simp[InV])]
theorem zic:ql qw 0 []=.ok [⟨nmA,1,0,0⟩]:=by
  unfold qw;rw[ql,if_neg (by rw[zmm];simp),if_pos rfl,if_neg (by simp),if_neg (show ¬(8<qX ([]++[Ln.it ⟨1,nmA,1,0,0,nmN,[]⟩])\/([]:List It).length=24) from zm7)];rw[ql,if_neg (by rw[zhW];simp),if_neg (by simp)];rw[ql,if_neg (by rw[zig];simp),if_neg (by simp),ql];rfl
theorem zoE:qL [⟨nmA,1,0,0⟩]=qs:=by
  unfold qL qs;rw[List.mergeSort]
theorem zh4:yn qw 0 qs=none:=by kernel_rfl
theorem JV:qU qw=.ok qs:=by
  unfold qU;rw[if_neg (by decide),zic];simp only[zoE,zh4]
theorem zgc:plF (qK Qj 49 0) []=.ok [(0,⟨1,nmA,1,0,0,nmN,[]⟩),(16,⟨4,nmA,0,0,0,nmN,[(0,1000000000)]⟩),(27,⟨3,nmA,1,0,0,nmA,[(0,1000000000)]⟩)]:=by
  rw[zj1,plF,ziF];simp only[plF,zhz,zkH];rfl
theorem zn4:xz Qj=.ok (qw,qs):=by
  unfold xz;rw[if_neg (by decide),show Qj.size=49 from rfl,zgc];have h:=JV;unfold qw at h;simp only[List.map_cons,List.map_nil,h];rfl
theorem zok:xF [(0,1000000000)] (qs.getD 0 default):=by
  refine⟨by simp[qs,InV],?_⟩;simp[qs,mem,QV]
theorem zk3:q8 qs nmA=(0,1):=by kernel_rfl
theorem ze1:qS qs nmA [(0,1000000000)]=[0]:=by
  unfold qS;rw[zk3];show List.filter _ [0]=[0];rw[List.filter_cons,if_pos (by simpa using zok)];rfl
theorem zjj:prF qs 1=[]:=by kernel_rfl
theorem zju:qQ qs ⟨nmA,1,0,0⟩=0:=by kernel_rfl
theorem YV:ofL qs qw=[(1,[1]),(2,[-1,-1])]:=by
  unfold ofL;rw[show qs.length=1 from rfl,zjj,show qw.length=3 from rfl];have h0:qY qs 0 (qw.getD 0 default)=[]:=by unfold qY;rw[if_neg (by decide),if_neg (by decide),if_neg (by decide)]
  have h1:qY qs 1 (qw.getD 1 default)=[(1,[1])]:=by
    unfold qY;rw[if_pos (by decide)];show [(((1:Nat):Int),(qS qs nmA [(0,1000000000)]).map fun (k:Nat)=>((k:Int)+1))]=_;rw[ze1];rfl
  have h2:qY qs 2 (qw.getD 2 default)=[(2,[-1,-1])]:=by
    unfold qY;rw[if_neg (by decide),if_neg (by decide),if_pos (by decide)];show (qS qs nmA [(0,1000000000)]).map (fun (k:Nat)=>(((2:Nat):Int),[qj (qQ qs ⟨nmA,1,0,0⟩),qj (k:Int)]))=_;rw[ze1,zju];rfl
  rw[Xh,Xh,Xh,h0,h1,h2];rfl
noncomputable def ZH(ls:List Ln)(its:List It)(l:List Nat):Bool:=ZO (qb (ofL its ls) (inF ls.length l))
theorem zdJ:zz qw=[1,2]:=by kernel_rfl
theorem zjy:ZH qw qs [1,2]=false:=by
  unfold ZH;rw[YV,show qb [(1,[1]),(2,[-1,-1])] (inF qw.length [1,2])=[[1],[-1,-1]] by decide];refine zeU.2 fun v hv=>?_;obtain⟨x,hx,h1⟩:=hv [1] (by simp);obtain⟨y,hy,h2⟩:=hv [-1,-1] (by simp);obtain rfl:x=1:=by simpa using hx
  obtain rfl:y=-1:=by simpa using hy
  rw[Xx (by decide),h1] at h2;cases h2
theorem zik:ZH qw qs [1]=true:=by
  unfold ZH;rw[YV,show qb [(1,[1]),(2,[-1,-1])] (inF qw.length [1])=[[1]] by decide];refine Qo.2 ⟨1,fun c hc=>?_⟩;obtain rfl:c=[1]:=by simpa using hc
  exact⟨1,by simp,by decide⟩
theorem zjs:ZH qw qs [2]=true:=by
  unfold ZH;rw[YV,show qb [(1,[1]),(2,[-1,-1])] (inF qw.length [2])=[[-1,-1]] by decide];refine Qo.2 ⟨0,fun c hc=>?_⟩;obtain rfl:c=[-1,-1]:=by simpa using hc
  exact⟨-1,by simp,by decide⟩
theorem zm5:xo (ZH qw qs) (zz qw).length (zz qw)=[1,2]:=by
  rw[zdJ];show xo (ZH qw qs) 2 [1,2]=[1,2];simp[xo,zik,zjs]
end
end Go.Proofs.YtapobpgbcbplbaaGreatDoor

/- Small texts, one behind the other: JrC, FsC, FsD, LwPiec. -/
import Derived.Deep.DeepCutAuto
import Derived.Test.YtjmndjmhjleabaaGreatDoorPk24
open Go.Value renaming int->I,string->V,slice->Z
open Go.IntKind renaming i64->J
open Option renaming none->U,some->M
open Bool renaming false->F
open Go renaming World->X
set_option maxHeartbeats 4000000
set_option maxRecDepth 100000
open Go.Proofs.Tryz
namespace Go.Proofs.YtjmndjmhjleabaaGreatDoor
open Go.RowKit
structure Cc (w:X)(g cap:Nat)(x:au)(k:Nat)(wr:X):Prop where
 buf:Buf wr g g cap (Fm.nO k x)
 below:Below g w wr
theorem Cc.store {w wr:X}{g cap k:Nat}{x:au}(h:Cc w g cap x k wr)(a:k<x.length)(hd:Fm.dirty x[k]=true):Cc w g cap x (k+1) (wr.setCell ⟨g,k,U⟩ (I .u8 95)):=by
 obtain⟨b,c⟩:=h.buf.set k 95;have d:Fm.zC x[k]=95:=by unfold Fm.zC;rw[hd];rfl
 refine⟨by rw[Fm.LG a,d];exact b,h.below.trans (c.below (fun i e=>by omega) (Nat.le_of_lt h.buf.lt))⟩
theorem Cc.skip {w wr:X}{g cap k:Nat}{x:au}(h:Cc w g cap x k wr)(a:k<x.length)(hd:Fm.dirty x[k]=F):Cc w g cap x (k+1) wr:=⟨by rw[Fm.LH a hd];exact h.buf,h.below⟩
theorem LJ (s:av)(w:X)(hs:s.size<=1000000):
 Calls prog 310 #[V s] w fun e w'=>e=.returned (V ⟨(Fm.safe s.data.toList).toArray⟩)∧Below w.heap.size w w':=by
 have hl:=Ch.iC s;have H1:=H9 (Iq s 47 w (by unfold maxLen;omega));have H2:=H9 (Iq s 92 w (by unfold maxLen;omega));go_enter func310,ntmps310;go_upto_region 1 with fail
 go_cut [3] (fun v wd=>∃p:Nat,v=I J ((p:Int)-1)∧p<=s.size∧s.data.toList.drop p=Fm.tail s.data.toList∧wd=w)
 case first =>
  go_wp2_with fail
  refine H1.o.mono ?_;rintro e w1 ⟨r1,rfl,hr1,q⟩;subst q;have HR1:=H9 hr1;clear hr1 H1;go_wp2_with fail
  refine H2.o.mono ?_;rintro e w2 ⟨r2,rfl,hr2,q⟩;subst q;obtain⟨q1,q2,q3⟩:=SH HR1.o hr2;rw[hl] at q2;have z:=H9 q3;clear hr2 H2 HR1 q3;by_cases hlt:r1<r2
  . have e:max r1 r2=r2:=by omega
    rw[e] at z q1 q2;go_wp2;go_meet;exact⟨(r2+1).toNat,by rw[show(((r2+1).toNat:Nat):Int)-1=r2 by omega],by omega,z.o,rfl⟩
  . have e:max r1 r2=r1:=by omega
    rw[e] at z q1 q2;go_wp2;go_meet;exact⟨(r1+1).toNat,by rw[show(((r1+1).toNat:Nat):Int)-1=r1 by omega],by omega,z.o,rfl⟩
 case rest =>
 clear H1 H2;obtain⟨p,rfl,hps,q3,q⟩:=hcut;subst q;have amV:(p:Int)<=s.size:=by omega
 have hx:(s.extract p s.size).data.toList=Fm.tail s.data.toList:=by
  rw[<-q3,Lib.extract_to_end]
 have hxs:(s.extract p s.size).size=(Fm.tail s.data.toList).length:=Ch.size_of_list hx;have htl:(Fm.tail s.data.toList).length<=s.size:=by rw[<-q3,bU,hl];omega
 obtain⟨r,w3,qw,hB3,hBf⟩:=NR (P:=prog) wc (s.extract p s.size) 9 31 5 (by rw[hxs];unfold maxLen;omega) underlying9 underlying31 underlying5;rw[hx] at hBf;rw[hxs] at qw;have HSf:Hid (Fm.safe s.data.toList=Fm.named ((Fm.Hf ((Fm.tail s.data.toList).map Fm.zC)).take 40)):=rfl;have aep:Hid (Cc wc wc.heap.size r (Fm.tail s.data.toList) 0 w3):=⟨by rw[Fm.LD];exact hBf,hB3⟩;clear hBf hB3 hx hxs q3;obtain⟨L,hsf⟩:∃L,Fm.safe s.data.toList=L:=⟨_,rfl⟩;rw[hsf] at HSf;have HSF:=H9 hsf;clear hsf;generalize Fm.tail s.data.toList=x at *;obtain⟨n,hn⟩:∃n,x.length=n:=⟨_,rfl⟩;have HN:=H9 hn;rw[hn] at qw htl;clear hn;have hn6:n<=1000000:=by omega
 clear htl;go_wp2;clear qw;go_loopw [19] (fun vi wr=>∃k:Nat,k<=n∧vi=I J k∧Cc wc wc.heap.size r x k wr) (fun vi _=>n-(intOf vi).toNat)
 case atStart=>exact⟨0,ay _,rfl,aep.o⟩
 case round =>
  clear aep;obtain⟨k,hk,rfl,hR⟩:=hrel;have N:=H9 hR;clear hR;by_cases hlt:k<n
  . have B:k<x.length:=by rw[HN.o];exact hlt
    have hlt':(k:Int)<n:=by omega
    have hcap:n<=r:=by have:=N.o.buf.le;rw[Fm.tH,HN.o] at this;exact this
    have ck:wr.cell? ⟨wc.heap.size,k,U⟩=M (I .u8 (x[k].toNat:Int)):=by
     have h1:k<(Fm.nO k x).length:=by rw[Fm.tH];exact B
     have:=N.o.buf.holds k _ (lQ _ k h1);rw[Fm.SG B] at this;exact this
    have fk:wr.frozen? ⟨wc.heap.size,k,U⟩=F:=(N.o.buf.there k (by omega)).2;have C:=H9 (N.o.store B);have l:=H9 (N.o.skip B);have HV:=H9 (fun W=>sK (x[k].toNat:Int) W);have T:∀d:UInt8,((x[k].toNat:Int)==(d.toNat:Int))=decide (x[k]=d):=fun d=>by
     rw[aG,aS,bQ];constructor
     . intro e;exact dQ.1 (by omega)
     . intro e;rw[e]
    have t9:((x[k].toNat:Int)==9)=decide (x[k]=9):=T 9;have t34:((x[k].toNat:Int)==34)=decide (x[k]=34):=T 34;have D:((x[k].toNat:Int)==58)=decide (x[k]=58):=T 58;have t:Hid (Fm.dirty x[k]=(decide (x[k]=9)||decide (x[k]=34)||decide (x[k]=58)||!Ch.visible x[k].toNat)):=by unfold Hid Fm.dirty;rfl
    clear T;generalize x[k]=c at *;by_cases G:c=9
    . have g:Fm.dirty c=true:=by rw[t.o,aH G];rfl
      rw[aH G] at t9;have H:=H9 (C.o g);clear G g C l t t34 D;go_wp2;go_roundw
      case rel=>exact⟨k+1,by omega,by go_num,H.o⟩
      case measure=>simp[intOf];omega
    . rw[aI G] at t9;by_cases O:c=34
      . have g:Fm.dirty c=true:=by rw[t.o,aH O];simp
        rw[aH O] at t34;have H:=H9 (C.o g);clear G O g C l t D;go_wp2;go_roundw
        case rel=>exact⟨k+1,by omega,by go_num,H.o⟩
        case measure=>simp[intOf];omega
      . rw[aI O] at t34;by_cases b:c=58
        . have g:Fm.dirty c=true:=by rw[t.o,aH b];simp
          rw[aH b] at D;have H:=H9 (C.o g);clear G O b g C l t;go_wp2;go_roundw
          case rel=>exact⟨k+1,by omega,by go_num,H.o⟩
          case measure=>simp[intOf];omega
        . rw[aI b] at D;rw[aI G,aI O,aI b] at t;cases hv:Ch.visible (c.toNat:Int)
          . have g:Fm.dirty c=true:=by rw[t.o,hv];rfl
            rw[hv] at HV;have H:=H9 (C.o g);clear G O b g C l t hv;go_wp2_with (go_at_call 184;refine(HV.o _).mono ?_;rintro e w4 ⟨rfl,q⟩;subst q)
            go_roundw
            case rel=>exact⟨k+1,by omega,by go_num,H.o⟩
            case measure=>simp[intOf];omega
          . have g:Fm.dirty c=F:=by rw[t.o,hv];rfl
            rw[hv] at HV;have H:=H9 (l.o g);clear G O b g C l t hv;go_wp2_with (go_at_call 184;refine(HV.o _).mono ?_;rintro e w4 ⟨rfl,q⟩;subst q)
            go_roundw
            case rel=>exact⟨k+1,by omega,by go_num,H.o⟩
            case measure=>simp[intOf];omega
  . obtain rfl:k=n:=by omega
    have hIs:iG wr (M ⟨wc.heap.size,0,U⟩) r (x.map Fm.zC):=by
     have:=N.o.buf.wZ;rw[<-HN.o,Fm.Ox] at this;exact this
    have HU:=H9 (Ov wr _ r k _ hIs (by rw[aD];exact HN.o));clear hIs;have aer:Hid (L=Fm.named ((Fm.Hf (x.map Fm.zC)).take 40)):=HSf.o;have UM:=H9 N.o.below;clear N HSf;go_wp2_with fail
    refine HU.o.mono ?_;rintro e w4 ⟨gV,i,m,rfl,hn',hI',q⟩;subst q;have aes:m=(Fm.Hf (x.map Fm.zC)).length:=hn';have aeu:iG w4 gV i (Fm.Hf (x.map Fm.zC)):=hI';have Zy:=H9 aes;have HI':=H9 aeu
    clear hn' hI' aes aeu HU;generalize Fm.Hf (x.map Fm.zC)=u at *;have V6:m<=i:=by rw[Zy.o];exact HI'.o.1
    have S:∀j,j=min m 40->0<j->(convert 31 9 (Z gV j i)).run prog w4=.ok (V ⟨L.toArray⟩) w4:=fun j hj h0=>by
     have h1:=HI'.o.first j (by rw[<-Zy.o];omega);have h2:=h1.str (P:=prog) 31 9 5 underlying31 underlying5 underlying9;have h3:(u.take j).length=j:=by rw[bX,<-Zy.o];omega
     rw[h3] at h2;have h4:L=u.take j:=by
      rw[aer.o,hj];have:u.take 40=u.take (min m 40):=by
       rcases Nat.le_total m 40 with e | e
       . rw[dU e,dN (by rw[<-Zy.o];exact e),dN (by rw[<-Zy.o];omega)]
       . rw[Nat.min_eq_right e]
      rw[this];unfold Fm.named;rw[if_neg];intro e;rw[hj] at h3;rw[e] at h3;simp at h3;omega
     rw[h4];exact h2
    have a:=H9 S;clear S;by_cases h0:m=0
    . subst h0;have HF:Hid (L=[102,105,108,101]):=by
       unfold Hid;have hu:u=[]:=dn Zy.o.symm;rw[aer.o,hu];rfl
      clear a;go_wp2;go_ret;exact⟨by rw[HSF.o,HF.o];rfl,UM.o⟩
    . by_cases Yo:m<=40
      . have hcv:=a.o m (by omega) (by omega);have t0:((m:Int)==0)=F:=by rw[aR];omega
        have h4a:(m:Int)<=40:=by omega
        clear a;obtain⟨y,f⟩:∃y:av,(⟨L.toArray⟩:av)=y:=⟨_,rfl⟩;rw[f] at hcv;have Zz:=H9 f;clear f;go_wp2;go_ret;exact⟨by rw[HSF.o,Zz.o];rfl,UM.o⟩
      . have hcv:=a.o 40 (by omega) (by omega);have h4a:¬(m:Int)<=40:=by omega
        have h4b:(40:Int)<m:=by omega
        have h4c:(40:Int)<=i:=by omega
        clear a;obtain⟨y,f⟩:∃y:av,(⟨L.toArray⟩:av)=y:=⟨_,rfl⟩;rw[f] at hcv;have Zz:=H9 f;clear f;go_wp2;go_ret;exact⟨by rw[HSF.o,Zz.o];rfl,UM.o⟩
theorem abZ (s:av)(k:Nat):(s.extract 0 k).data.toList=s.data.toList.take k:=by
 rw[Lib.extract_data];simp
theorem ahX (s:av)(i:Nat)(h:i+2<s.size):(s.extract (i+1) (i+3)).data.toList=[s[i+1]'(by omega),s[i+2]'(by omega)]∧s.data.toList.drop i=s[i]'(by omega)::s[i+1]'(by omega)::s[i+2]'(by omega)::s.data.toList.drop (i+3):=by
 have b:=Ch.iC s;have d:∀k (a:k<s.size),s.data.toList.drop k=s[k]::s.data.toList.drop (k+1):=fun k a=>by
  rw[aC (by rw[b];exact a),byte_at s k a]
 refine⟨?_,by rw[d i (by omega),d (i+1) (by omega),d (i+2) (by omega)]⟩;rw[Lib.extract_data,show i+3-(i+1)=2 by omega,d (i+1) (by omega),d (i+2) (by omega)];rfl
def Fm.wO (o:Option (au)):Value:=.tuple #[V ⟨(o.getD []).toArray⟩,.bool o.isSome]
structure LM (w:X)(l:au)(i:Nat)(ao:aj)(cap n:Nat)(wr:X):Prop where
 own:∃bs,iD wr w.heap.size 5 ao cap bs∧n=bs.length∧n<=i∧Fm.dec (l.drop 7)=Fm.decs bs (l.drop i)
 below:Below w.heap.size w wr
theorem LM.more {w wr b:X}{l bs:au}{c:UInt8}{ao j:aj}{cap m n i:Nat}{o:Obj}(d:Below w.heap.size w wr)(p:iD wr w.heap.size 5 ao cap bs)(f:iD b w.heap.size 5 j m (bs++[c]))(g:(wr.alloc o).grownBy b (gK ao))(q:n=bs.length)(r:n+1<=i)(hd:Fm.dec (l.drop 7)=Fm.decs (bs++[c]) (l.drop i)):LM w l i j m (n+1) b:=by
 refine⟨⟨bs++[c],f,by rw[aV,q];rfl,r,hd⟩,(d.alloc d.size o).grown g (by rw[fV];have:=d.size;omega) (fun k e=>?_)⟩;cases ao with
 | none=>simp[gK] at e
 | some a=>simp[gK] at e;have:=(p.block a rfl).1;omega
theorem OB (s:av)(w:X)(hs:s.size<=1000000):
 Calls prog 309 #[V s] w fun e w'=>e=.returned (Fm.wO (Fm.coded s.data.toList))∧Below w.heap.size w w':=by
 have B:=Ch.iC s;by_cases h7:s.size<7
 . have r:Hid (Fm.coded s.data.toList=U):=by unfold Hid Fm.coded;rw[if_pos (Or.inl (by rw[B];exact h7))]
   have t7:decide ((s.size:Int)<7)=true:=aH (by omega);go_enter func309,ntmps309;go_wp2;go_ret2;exact⟨by rw[r.o];rfl,fI _ _⟩
 . have t7:decide ((s.size:Int)<7)=F:=aI (by omega);have h7':(7:Int)<=s.size:=by omega
   have hx:(s.extract 0 7).data.toList=s.data.toList.take 7:=abZ s 7;have t:(s.extract 0 7).size=7:=by rw[Ch.size_of_list hx,bX,B];omega
   have HL:=H9 (oM (s.extract 0 7) w (by rw[t];unfold maxLen;omega));rw[hx] at HL;by_cases C:Ch.lower (s.data.toList.take 7)=Fm.ad3
   . have r:Hid (Fm.coded s.data.toList=Fm.dec (s.data.toList.drop 7)):=by unfold Hid Fm.coded;rw[if_neg (fun e=>by rcases e with e | e;rw[B] at e;exact h7 e;exact e C)]
     have tu:((⟨(Ch.lower (s.data.toList.take 7)).toArray⟩:av).toList==[117,116,102,45,56,39,39])=true:=by
      rw[aS,Lib.toList_data];exact C
     generalize (⟨(Ch.lower (s.data.toList.take 7)).toArray⟩:av)=lo at *;clear C hx t;go_enter func309,ntmps309;obtain⟨i0,D,G,H,f⟩:=info_parts jN;have Hi:=H9 D;have kJ:=H9 G;have kG:=H9 H;have kK:=H9 f
     clear D G H f;go_wp2_with (go_at_call 203;refine HL.o.mono ?_;rintro e w1 ⟨rfl,p⟩)
     have L:=H9 p;clear p HL;go_loopw [4,5] (fun vb vi wr=>∃(i n:Nat) (ao:aj) (u:Nat),7<=i∧i<=s.size∧vi=I J i∧vb=Z ao n u∧LM w s.data.toList i ao u n wr) (fun _ vi _=>s.size-(intOf vi).toNat)
     case atStart=>exact⟨7,0,U,0,aL _,by omega,rfl,rfl,⟨⟨[],iD.nil _ _ _,rfl,by omega,(Fm.Oz _).symm⟩,L.o⟩⟩
     case round =>
      clear L;obtain⟨i,n,ao,u,hi7,his,rfl,rfl,hR⟩:=hrel;obtain⟨⟨bs,hO,hn,hni,hd⟩,hB⟩:=hR;have N:=H9 hO;have O:=H9 hn;have m:=H9 hd;have x:=H9 hB
      clear hO hn hd hB;by_cases S:i<s.size
      . have hlt':(i:Int)<s.size:=by omega
        have q:s.data.toList.drop i=s[i]::s.data.toList.drop (i+1):=by rw[aC (by rw[B];exact S),byte_at s i S]
        by_cases d:s[i]=37
        . have t37:((s[i].toNat:Int) != 37)=F:=by rw[d];rfl
          by_cases hsh:s.size-i<3
          . have tsh:decide ((s.size:Int)-i<3)=true:=aH (by omega);have T:Hid (Fm.coded s.data.toList=U):=by
             unfold Hid;rw[r.o,m.o,q,d,Fm.Oy (by rw[bU,B];omega)]
            clear m q d;go_wp2;go_ret2;exact⟨by rw[T.o];rfl,x.o⟩
          . have tsh:decide ((s.size:Int)-i<3)=F:=aI (by omega);obtain⟨y,z⟩:=ahX s i (by omega);have f:(s.extract (i+1) (i+3)).size=2:=Ch.size_of_list y;have g:=H9 (fun W=>zI (s.extract (i+1) (i+3)) W (by rw[f];unfold maxLen;omega));rw[y,Fm.OA] at g;rw[d] at z;rw[z] at m;have i1:(i:Int)+1<=(i:Int)+3:=by omega
            have i3:(i:Int)+3<=s.size:=by omega
            have e1:((i:Int)+1).toNat=i+1:=by omega
            have e3:((i:Int)+3).toNat=i+3:=by omega
            generalize s[i+1]=a at *;generalize s[i+2]=b at *;clear y z q f;by_cases c:0<=Ch.hex a.toNat∧0<=Ch.hex b.toNat
            . obtain⟨hbt,hle⟩:=Fm.WJ c.1 c.2;rw[Fm.WH c.1 c.2] at m;rw[if_pos c] at g;have hge:0<=16*Ch.hex a.toNat+Ch.hex b.toNat:=by omega
              generalize 16*Ch.hex (a.toNat:Int)+Ch.hex (b.toNat:Int)=v at *;generalize v.toNat.toUInt8=cb at *;subst hbt;have hwr:IntKind.u8.wrap (cb.toNat:Int)=cb.toNat:=by
               rw[IntKind.wrap_u8];have:=cb.toNat_lt;omega
              have hnc:n+1<=140737488355328:=by omega
              clear c;go_wp2_with (first
               | (go_at_call 311;refine(g.o _).mono ?_;rintro e w2 ⟨rfl,hw⟩;subst hw)
               | (at_builtin;refine iX rfl (.tmp 50) (.tmp 53) 31 rfl w.heap.size 5 i0 underlying31 Hi.o kJ.o kG.o kK.o (l:=bs) (l2:=[cb]) rfl O.o.symm (N.o.alloc _) rfl rfl (iG.one _ _ _ _) (by omega) (by rw[fV];have:=x.o.size;omega) ?_;intro jP gW w3 j k;have oC:=H9 j;have sF:=H9 k;clear j k))
              go_roundw
              case rel=>exact⟨i+3,n+1,jP,gW,by omega,by omega,by go_num,rfl,LM.more x.o N.o oC.o sF.o O.o (by omega) m.o⟩
              case measure=>simp[intOf];omega
            . have T:Hid (Fm.coded s.data.toList=U):=by
               unfold Hid;rw[r.o,m.o,Fm.WI c]
              rw[if_neg c] at g;clear c m;go_wp2_with (go_at_call 311;refine(g.o _).mono ?_;rintro e w2 ⟨rfl,hw⟩;subst hw)
              go_ret2;exact⟨by rw[T.o];rfl,x.o⟩
        . have t37:((s[i].toNat:Int) != 37)=true:=by rw[cO];intro e;exact d (dQ.1 (by show _=37;omega))
          rw[q,Fm.SI d] at m;go_wp2_with (at_builtin;refine iX rfl (.tmp 27) (.tmp 31) 31 rfl w.heap.size 5 i0 underlying31 Hi.o kJ.o kG.o kK.o (l:=bs) (l2:=[s[i]]) rfl O.o.symm (N.o.alloc _) rfl rfl (iG.one _ _ _ _) (by omega) (by rw[fV];have:=x.o.size;omega) ?_;intro jP gW w3 j k;have oC:=H9 j;have sF:=H9 k;clear j k)
          go_roundw
          case rel=>exact⟨i+1,n+1,jP,gW,by omega,by omega,by go_num,rfl,LM.more x.o N.o oC.o sF.o O.o (by omega) m.o⟩
          case measure=>simp[intOf];omega
      . obtain rfl:i=s.size:=by omega
        have hcv:=N.o.wZ.str (P:=prog) 31 9 5 underlying31 underlying5 underlying9;rw[<-O.o] at hcv;have T:Hid (Fm.coded s.data.toList=M bs):=by
         unfold Hid;rw[r.o,m.o,aJ (by rw[B];exact aL _),Fm.WG]
        go_wp2;go_ret2;exact⟨by rw[T.o];rfl,x.o⟩
   . have r:Hid (Fm.coded s.data.toList=U):=by unfold Hid Fm.coded;rw[if_pos (Or.inr C)]
     have tu:((⟨(Ch.lower (s.data.toList.take 7)).toArray⟩:av).toList==[117,116,102,45,56,39,39])=F:=by
      rw[aR,Lib.toList_data];exact C
     generalize (⟨(Ch.lower (s.data.toList.take 7)).toArray⟩:av)=lo at *;clear C hx t;go_enter func309,ntmps309;go_wp2_with (go_at_call 203;refine HL.o.mono ?_;rintro e w1 ⟨rfl,p⟩)
     go_ret2;exact⟨by rw[r.o];rfl,p⟩
structure Pc where
 ao:aj
 cap:Nat
 l:au
def Pc.v (p:Pc):Value:=Z p.ao p.l.length p.cap
def pcV (ps:List Pc):List Value:=ps.map Pc.v
structure ac3 (w:X)(bo:aj)(p:Pc):Prop where
 is:iG w p.ao p.cap p.l
 blk:p.l≠[]->∀a,p.ao=M a->∃a0,bo=M a0∧a.block=a0.block
structure yG (w:X)(bo:aj)(l:au)(fr:Nat)(ao:aj)(cap:Nat)(ps:List Pc)(wr:X):Prop where
 own:gU wr w.heap.size 31 1 ao cap ps.length (pcV ps)
 all:∀p∈ps,ac3 w bo p
 flat:(ps.map Pc.l).flatten=l.take fr
 below:Below w.heap.size w wr
theorem FC (a:List Pc):(pcV a).length=a.length:=by simp[pcV]
theorem X5 (c:Int)(n a:Nat)(h:a<=n):0<=(IntKind.u64.wrap c).tmod ((n:Int)-a+1)∧(IntKind.u64.wrap c).tmod ((n:Int)-a+1)<=(n:Int)-a:=by
 have d:0<=IntKind.u64.wrap c:=by rw[IntKind.wrap_u64];omega
 have e:=Int.tmod_nonneg ((n:Int)-a+1) d;have f:=Int.tmod_lt_of_pos (IntKind.u64.wrap c) (b:=(n:Int)-a+1) (by omega);exact⟨e,by omega⟩
theorem aam:(prog.info? 31).map (fun i=>(i.zero,i.size,i.bytes))=M (M (Z U 0 0),1,24):=by kernel_rfl
theorem ac4 {w:X}{bo gV:aj}{gJ:Nat}{l:au}(h:iG w bo gJ l)(b k:Nat)(f:b<=k)(i:k<=l.length)(e:gJ≠b->gV=bo.map (·.add b)):ac3 w bo ⟨gV,gJ-b,(l.drop b).take (k-b)⟩:=by
 refine⟨h.cut b k f i e,fun d a ha=>?_⟩;have n:l.length<=gJ:=h.1;have j:b<k:=by
  rcases aT b k with g | g
  . exact g
  . exact absurd (by rw[show k-b=0 by omega,List.take_zero]) d
 have c:gV=M a:=ha;rw[e (by omega)] at c;cases bo with
 | none=>simp at c
 | some m=>refine⟨m,rfl,?_⟩;simp at c;rw[<-c,add_block]
theorem yG.snoc {w:X}{bo:aj}{l:au}{a k:Nat}{ao g:aj}{cap b:Nat}{c:List Pc}{p:Pc}{wr w':X}(h:yG w bo l a ao cap c wr)(i:ac3 w bo p)(f:p.l=(l.drop a).take (k-a))(n:a<=k)(j:gU w' w.heap.size 31 1 g b (c.length+1) (pcV c++[p.v]))(m:Below w.heap.size w w'):yG w bo l k g b (c++[p]) w':=by
 refine⟨?_,fun q d=>?_,?_,m⟩
 . rw[aV];have:pcV (c++[p])=pcV c++[p.v]:=by simp[pcV]
   rw[this];exact j
 . rcases bA.1 d with d | d
   . exact h.all q d
   . rw[bB.1 d];exact i
 . rw[bF,dz,h.flat];show l.take a++[p.l].flatten=_;rw[f];have:[(l.drop a).take (k-a)].flatten=(l.drop a).take (k-a):=by simp
   rw[this];have e:k=a+(k-a):=by omega
   conv=>rhs;rw[e,List.take_add]
theorem yG.push {w:X}{bo:aj}{gJ:Nat}{l:au}{a k:Nat}{ao f:aj}{cap b:Nat}{d:List Pc}{wr w':X}{i:Obj}(h:yG w bo l a ao cap d wr)(j:iG w bo gJ l)(gV:aj)(m c:Nat)(n:m=k-a)(o:c=gJ-a)(e:gJ≠a->gV=bo.map (·.add a))(g:a<=k)(r:k<=l.length)(s:gU w' w.heap.size 31 1 f b (d.length+1) (pcV d++[Z gV m c]))(t:(wr.alloc i).grownBy w' (gK ao)):∃p,yG w bo l k f b (d++[p]) w':=by
 subst n;subst o;have u:=h.below.size;refine⟨⟨gV,gJ-a,(l.drop a).take (k-a)⟩,h.snoc (ac4 j a k g r e) rfl g ?_ ?_⟩
 . have x:(Value.slice gV (k-a) (gJ-a))=Pc.v ⟨gV,gJ-a,(l.drop a).take (k-a)⟩:=by
    show _=Value.slice _ ((l.drop a).take (k-a)).length _;rw[bX,bU];congr 1;omega
   rw[<-x];exact s
 . exact(h.below.alloc u _).grown t (by simp;omega) (fun q e=>by
    cases ao with
    | none=>simp[gK] at e
    | some y=>simp only[gK,bT] at e;have:=(h.own.block y rfl).1;omega)
theorem FD (w:X)(l:au)(bo co:aj)(gJ n PK W:Nat)(z:List Int)(hB:iG w bo gJ l)(hn:l.length=n)(hl:n<=100000)(hC:jm w co PK W (z.map fun c=>Value.int J c))(hnc:z.length=W)(hc:W<=1000):
 Calls prog 21 #[Z bo n gJ,Z co W PK] w fun e w'=>∃(m:List Pc) (ao:aj) (cap:Nat),e=.returned (Z ao m.length cap)∧yG w bo l l.length ao cap m w'∧m.length=W+1:=by
 subst hn;subst hnc;have B:=H9 hB;have HC:=H9 hC
 clear hB hC;obtain⟨L,hi0,hz0,hz1,hz2⟩:=info_parts aam;have N:=H9 hi0;have O:=H9 hz0;have P:=H9 hz1;have S:=H9 hz2
 clear hi0 hz0 hz1 hz2;go_enter func21,ntmps21;go_wp2;go_loopw [5,6,7] (fun vo vf vi wr=>∃(i f:Nat) (m:List Pc) (ao:aj) (cap:Nat),i<=z.length∧f<=l.length∧vi=I J i∧vf=I J f∧vo=Z ao m.length cap∧m.length=i∧yG w bo l f ao cap m wr) (fun _ _ vi _=>z.length-(intOf vi).toNat)
 case atStart=>exact⟨0,0,[],U,0,ay _,ay _,rfl,rfl,rfl,rfl,⟨gU.nil _ _ _ _,(fun p q=>by cases q),rfl,fI _ _⟩⟩
 case round =>
  obtain⟨i,f,m,ao,cap,hi,hfr,rfl,rfl,rfl,hps,hP⟩:=hrel;have g:=H9 hP;have T:=H9 hps;have hpl:m.length<=1000:=by omega
  clear hP hps;by_cases hlt:i<z.length
  . obtain⟨bb,oo,rfl,hcc⟩:=HC.o.lit (by rw[aD];omega);have hlt':(i:Int)<z.length:=by omega
    have hcv:=HC.o.1;have ci:wr.cell? ⟨bb,oo+i,U⟩=M (I J z[i]):=by
     have:=hcc i (I J z[i]) (by rw[dA,dB hlt];rfl);exact(g.o.below.cell (fZ w _ this)).trans this
    clear hcc;generalize z[i]=c at *;go_upto_region 6 with fail
    go_cut [8] from 9 to 37 (fun vk wd=>∃k:Nat,f<=k∧k<=l.length∧vk=I J k∧wd=wr)
    case first =>
     go_wp2;go_meet;obtain⟨h1,h2⟩:=X5 c l.length f hfr;exact⟨f+((IntKind.u64.wrap c).tmod ((l.length:Int)-f+1)).toNat,by omega,by omega,by rw[Hy (x:=(IntKind.u64.wrap c).tmod ((l.length:Int)-f+1)) (by omega) (by omega),Hy (by omega) (by omega)];congr 1;omega,rfl⟩
    case rest =>
     obtain⟨k,hk1,s,rfl,hw⟩:=hcut;subst hw;have hcap:=B.o.1;have k1:(f:Int)<=k:=by omega
     have k2:(k:Int)<=gJ:=by omega
     clear ci;cases bo with
     | none =>
       obtain⟨t,C⟩:=B.o.ru;have D:l.length=0:=by rw[t];rfl
       have G:k=f:=by omega
       have r:gJ=f:=by omega
       clear t C D;subst G;subst r;go_wp2_with (at_builtin;refine gQ rfl (.tmp 30) (.tmp 35) 63 rfl w.heap.size 31 L (Z U 0 0) 1 24 underlying63 N.o O.o P.o S.o rfl (by decide) rfl (g.o.own.alloc _) rfl (jm.made _ _ 1 _ _) rfl (fun u j=>by simp at j;subst j;rfl) (by omega) (by omega) (by have:=g.o.below.size;simp;omega) ?_;intro v y w3 b d _)
       obtain⟨p,q⟩:=g.o.push B.o (k:=gJ) _ _ _ (by omega) (by omega) (fun e=>absurd rfl e) (by omega) s b d;go_roundw
       case rel=>exact⟨i+1,gJ,m++[p],v,y,by omega,s,by go_num,rfl,by rw[aV];rfl,by rw[aV,T.o];rfl,q⟩
       case measure=>simp[intOf];omega
     | some a =>
       by_cases r:gJ=f
       . have G:k=f:=by omega
         subst G;subst r;go_wp2_with (at_builtin;refine gQ rfl (.tmp 30) (.tmp 35) 63 rfl w.heap.size 31 L (Z U 0 0) 1 24 underlying63 N.o O.o P.o S.o rfl (by decide) rfl (g.o.own.alloc _) rfl (jm.made _ _ 1 _ _) rfl (fun u j=>by simp at j;subst j;rfl) (by omega) (by omega) (by have:=g.o.below.size;simp;omega) ?_;intro v y w3 b d _)
         obtain⟨p,q⟩:=g.o.push B.o (k:=gJ) _ _ _ (by omega) (by omega) (fun e=>absurd rfl e) (by omega) s b d;go_roundw
         case rel=>exact⟨i+1,gJ,m++[p],v,y,by omega,s,by go_num,rfl,by rw[aV];rfl,by rw[aV,T.o];rfl,q⟩
         case measure=>simp[intOf];omega
       . go_wp2_with (at_builtin;refine gQ rfl (.tmp 30) (.tmp 35) 63 rfl w.heap.size 31 L (Z U 0 0) 1 24 underlying63 N.o O.o P.o S.o rfl (by decide) rfl (g.o.own.alloc _) rfl (jm.made _ _ 1 _ _) rfl (fun u j=>by simp at j;subst j;rfl) (by omega) (by omega) (by have:=g.o.below.size;simp;omega) ?_;intro v y w3 b d _)
         obtain⟨p,q⟩:=g.o.push B.o (k:=k) _ _ _ (by omega) (by omega) (fun _=>rfl) (by omega) s b d;go_roundw
         case rel=>exact⟨i+1,k,m++[p],v,y,by omega,s,by go_num,rfl,by rw[aV];rfl,by rw[aV,T.o];rfl,q⟩
         case measure=>simp[intOf];omega
  . obtain rfl:i=z.length:=by omega
    have hcap:=B.o.1;have k1:(f:Int)<=l.length:=by omega
    cases bo with
    | none =>
      obtain⟨t,C⟩:=B.o.ru;have D:l.length=0:=by rw[t];rfl
      have r:gJ=f:=by omega
      have H:l.length=f:=by omega
      clear t C D;subst r;go_wp2_with (at_builtin;refine gQ rfl (.tmp 38) (.tmp 42) 63 rfl w.heap.size 31 L (Z U 0 0) 1 24 underlying63 N.o O.o P.o S.o rfl (by decide) rfl (g.o.own.alloc _) rfl (jm.made _ _ 1 _ _) rfl (fun u j=>by simp at j;subst j;rfl) (by omega) (by omega) (by have:=g.o.below.size;simp;omega) ?_;intro v y w3 b d _)
      obtain⟨p,q⟩:=g.o.push B.o (k:=l.length) _ _ _ (by omega) (by omega) (fun e=>absurd rfl e) (by omega) (aL _) b d;go_ret;exact⟨m++[p],v,y,by rw[aV];rfl,(by rw[H] at q;exact q),by rw[aV,T.o];rfl⟩
    | some a =>
      by_cases r:gJ=f
      . have H:l.length=f:=by omega
        subst r;go_wp2_with (at_builtin;refine gQ rfl (.tmp 38) (.tmp 42) 63 rfl w.heap.size 31 L (Z U 0 0) 1 24 underlying63 N.o O.o P.o S.o rfl (by decide) rfl (g.o.own.alloc _) rfl (jm.made _ _ 1 _ _) rfl (fun u j=>by simp at j;subst j;rfl) (by omega) (by omega) (by have:=g.o.below.size;simp;omega) ?_;intro v y w3 b d _)
        obtain⟨p,q⟩:=g.o.push B.o (k:=l.length) _ _ _ (by omega) (by omega) (fun e=>absurd rfl e) (by omega) (aL _) b d;go_ret;exact⟨m++[p],v,y,by rw[aV];rfl,(by rw[H] at q;exact q),by rw[aV,T.o];rfl⟩
      . go_wp2_with (at_builtin;refine gQ rfl (.tmp 38) (.tmp 42) 63 rfl w.heap.size 31 L (Z U 0 0) 1 24 underlying63 N.o O.o P.o S.o rfl (by decide) rfl (g.o.own.alloc _) rfl (jm.made _ _ 1 _ _) rfl (fun u j=>by simp at j;subst j;rfl) (by omega) (by omega) (by have:=g.o.below.size;simp;omega) ?_;intro v y w3 b d _)
        obtain⟨p,q⟩:=g.o.push B.o (k:=l.length) _ _ _ (by omega) (by omega) (fun _=>rfl) (by omega) (aL _) b d;go_ret;exact⟨m++[p],v,y,by rw[aV];rfl,q,by rw[aV,T.o];rfl⟩
end Go.Proofs.YtjmndjmhjleabaaGreatDoor
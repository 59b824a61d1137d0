/- Small texts, one behind the other: JrC, FsC, FsD, LwPiec. -/
import Derived.Deep.DeepCutAuto
import Derived.Test.YthhklgjjnaeaoaaGreatDoorPk21
open Go.Value renaming int->I,string->V
open Go.IntKind renaming i64->J
open Option renaming none->U
open Bool renaming false->F
open Go renaming World->X
set_option maxHeartbeats 4000000
set_option maxRecDepth 100000
open Go.Proofs.Tryz
namespace Go.Proofs.YthhklgjjnaeaoaaGreatDoor
open Go.RowKit
def Bf (b:av):Int×Nat:=match Jn.rn b with
 | none=>(0,0)
 | some p=>p
theorem Wd (b:av):Bf b=match Jn.rd b with
 | none=>(0,0)
 | some (m,s)=>((m:Int)-1,s):=by
 unfold Bf Jn.rn;cases Jn.rd b <;> rfl
def rE (b:av)(i S:Nat):Prop:=S<128 ^ i∧Jn.rd b=(Jn.AB (5-i) (decide (i=0)) (b.drop i)).map fun p=>(S+128 ^ i*p.1,p.2+i)
theorem rE.zero (b:av):rE b 0 0:=by
 refine⟨by decide,?_⟩;unfold Jn.rd;show _=(Jn.AB 5 true b).map _;cases Jn.AB 5 true b with
 | none=>rfl
 | some p=>simp
theorem rE.end_ {b:av}{i S:Nat}(h:rE b i S)(c:¬(i<b.length∧i<5)):Jn.rd b=U:=by
 rw[h.2];by_cases d:i<5
 . rw[aK (by omega),Jn.YF];rfl
 . obtain⟨k,a⟩:∃k,k=5-i:=⟨_,rfl⟩;rw[<-a,show k=0 by omega];rfl
theorem rE.on {b:av}{i S:Nat}(h:rE b i S)(a:i<5)(c:i<b.length)(d:¬b[i].toNat<128):rE b (i+1) (S+b[i].toNat % 128*128 ^ i):=by
 refine⟨?_,?_⟩
 . have g:=h.1;rw[Nat.pow_succ];have e:b[i].toNat % 128<=127:=by omega
   have j:b[i].toNat % 128*128 ^ i<=127*128 ^ i:=Nat.mul_le_mul_right _ e;omega
 . rw[h.2,Jn.MK b i a c _ rfl,if_neg d];have f:decide (i+1=0)=F:=by simp
   rw[f];cases Jn.AB (5-(i+1)) F (b.drop (i+1)) with
   | none=>rfl
   | some p =>
     obtain⟨m,s⟩:=p;simp only[Option.map_some];congr 2
     . rw[Nat.pow_succ,Nat.mul_add,bJ];congr 2
       . exact Nat.mul_comm _ _
       . rw[Nat.mul_assoc]
     . omega
theorem rE.adq {b:av}{i S:Nat}(h:rE b i S)(a:i<5)(c:i<b.length)(d:b[i].toNat=0)(e:0<i):Jn.rd b=U:=by grind [rE,Jn.rd,Jn.MK]
theorem rE.last {b:av}{i S:Nat}(h:rE b i S)(c:i<5)(d:i<b.length)(a:b[i].toNat<128)(e:¬(b[i].toNat=0∧0<i)):Jn.rd b=some (S+b[i].toNat % 128*128 ^ i,i+1):=by
 rw[h.2,Jn.MK b i c d _ rfl,if_pos a,if_neg (by rintro ⟨f,g⟩;exact e ⟨f,by simp at g;omega⟩)];simp only[Option.map_some];rw[Nat.mod_eq_of_lt a,Nat.mul_comm];congr 2;omega
theorem DK {i:Nat}(h:i<5):i=0∨i=1∨i=2∨i=3∨i=4:=by omega
theorem vM (b:av)(ao:ak)(cap n:Nat)(w:X)(v:gN w ao cap b)(G:b.length=n)(hN:n<=1000000000):
 Calls prog 210 #[.slice ao n cap] w fun e w'=>e=.returned (.tuple #[I J (Bf b).1,I J ((Bf b).2:Int)])∧w'=w:=by
 have d:=H9 (Wd b);have z:=H9 v;have q:=v.1;rw[G] at q;obtain⟨k,H,r⟩:∃k:Nat,k<=5∧(k=n∧n<=5∨k=5∧5<n):=by
  by_cases h:n<=5
  . exact⟨n,h,Or.inl ⟨rfl,h⟩⟩
  . exact⟨5,aM _,Or.inr ⟨rfl,by omega⟩⟩
 clear v;go_enter func210,ntmps210;go_upto_region 2 with fail
 go_cut [11,12,13] (fun x L s N=>x=.slice ao k cap∧L=I J k∧s=I J 0∧N=w)
 case first =>
  rcases r with ⟨rfl,T⟩ | ⟨rfl,T⟩
  . have y:¬(5:Int)<k:=by omega
    go_wp2;go_meet;exact⟨rfl,rfl,rfl,rfl⟩
  . have y:(5:Int)<n:=by omega
    have W:(5:Int)<=cap:=by omega
    go_wp2;go_meet;exact⟨rfl,rfl,rfl,rfl⟩
 case rest =>
  obtain⟨rfl,rfl,rfl,rfl⟩:=hcut;have B:k<=n:=by omega
  have HK:Hid (∀i,¬i<k->¬(i<b.length∧i<5)):=fun i hi=>by omega
  clear r;go_wp2;go_loopw [4,13] (fun x s wr=>∃(i S:Nat),i<=k∧x=I J S∧s=I J i∧rE b i S∧wr=wc) (fun _ s _=>k-(intOf s).toNat)
  case atStart=>exact⟨0,0,aA _,rfl,rfl,rE.zero b,rfl⟩
  case round =>
   obtain⟨i,S,hi,rfl,rfl,p,hw⟩:=hrel;subst hw;have HR:=H9 p;by_cases hlt:i<k
   . obtain⟨bb,oo,rfl,C⟩:=z.o.lit (by omega);have f:i<b.length:=by omega
     have t:=C i f;have D:(i:Int)<k:=by omega
     have g:=p.on (by omega) f;have j:=p.adq (by omega) f;have l:=p.last (by omega) f;have hS:=p.1;clear p z C;generalize b[i]=c at *;have hcl:=c.toNat_lt;by_cases m:c.toNat<128
     . have h1:¬(128:Int)<=c.toNat:=by omega
       by_cases u:c.toNat=0∧0<i
       . have a:=H9 (j u.1 u.2);have hz1:((c.toNat:Int)==0)=true:=by rw[aS];omega
         obtain⟨hz2,hz3⟩:=u;clear g j l;rcases DK (i:=i) (by omega) with rfl | rfl | rfl | rfl | rfl
         . omega
         . skip;go_wp2;go_ret2;exact⟨by rw[d.o,a.o];rfl,rfl⟩
         . skip;go_wp2;go_ret2;exact⟨by rw[d.o,a.o];rfl,rfl⟩
         . skip;go_wp2;go_ret2;exact⟨by rw[d.o,a.o];rfl,rfl⟩
         . skip;go_wp2;go_ret2;exact⟨by rw[d.o,a.o];rfl,rfl⟩
       . have a:=H9 (l m u);clear g j l;rcases DK (i:=i) (by omega) with rfl | rfl | rfl | rfl | rfl
         . rw[bI] at t;go_wp2;all_goals
            go_ret2;refine⟨?_,rfl⟩;rw[d.o,a.o];first | (simp;done) | (simp;omega)
         . skip;go_wp2;all_goals
            go_ret2;refine⟨?_,rfl⟩;rw[d.o,a.o];first | (simp;done) | (simp;omega)
         . skip;go_wp2;all_goals
            go_ret2;refine⟨?_,rfl⟩;rw[d.o,a.o];first | (simp;done) | (simp;omega)
         . skip;go_wp2;all_goals
            go_ret2;refine⟨?_,rfl⟩;rw[d.o,a.o];first | (simp;done) | (simp;omega)
         . skip;go_wp2;all_goals
            go_ret2;refine⟨?_,rfl⟩;rw[d.o,a.o];first | (simp;done) | (simp;omega)
     . have h1:(128:Int)<=c.toNat:=by omega
       have a:=H9 (g m);clear g j l;rcases DK (i:=i) (by omega) with rfl | rfl | rfl | rfl | rfl
       . rw[bI] at t;go_wp2;go_roundw
         case rel=>exact⟨1,S+c.toNat % 128*128 ^ 0,by omega,by first | (congr 1;done) | (congr 1;omega),by go_num,a.o,by first | rfl | trivial⟩
         case measure=>simp[intOf];omega
       . skip;go_wp2;go_roundw
         case rel=>exact⟨2,S+c.toNat % 128*128 ^ 1,by omega,by first | (congr 1;done) | (congr 1;omega),by go_num,a.o,by first | rfl | trivial⟩
         case measure=>simp[intOf];omega
       . skip;go_wp2;go_roundw
         case rel=>exact⟨3,S+c.toNat % 128*128 ^ 2,by omega,by first | (congr 1;done) | (congr 1;omega),by go_num,a.o,by first | rfl | trivial⟩
         case measure=>simp[intOf];omega
       . skip;go_wp2;go_roundw
         case rel=>exact⟨4,S+c.toNat % 128*128 ^ 3,by omega,by first | (congr 1;done) | (congr 1;omega),by go_num,a.o,by first | rfl | trivial⟩
         case measure=>simp[intOf];omega
       . skip;go_wp2;go_roundw
         case rel=>exact⟨5,S+c.toNat % 128*128 ^ 4,by omega,by first | (congr 1;done) | (congr 1;omega),by go_num,a.o,by first | rfl | trivial⟩
         case measure=>simp[intOf];omega
   . obtain rfl:i=k:=by omega
     have HE:=H9 (HR.o.end_ (HK.o _ (by omega)));go_wp2;go_ret2;exact⟨by rw[d.o,HE.o];rfl,rfl⟩
structure Bv (w:X)(g cap:Nat)(x:av)(k:Nat)(wr:X):Prop where
 buf:Buf wr g g cap (Fm.nA k x)
 below:Below g w wr
theorem Bv.store {w wr:X}{g cap k:Nat}{x:av}(h:Bv w g cap x k wr)(a:k<x.length)(hd:Fm.dirty x[k]=true):Bv w g cap x (k+1) (wr.setCell ⟨g,k,U⟩ (I .u8 95)):=by
 obtain⟨b,c⟩:=h.buf.set k 95;have d:Fm.yM x[k]=95:=by unfold Fm.yM;rw[hd];rfl
 refine⟨by rw[Fm.KZ a,d];exact b,h.below.trans (c.below (fun i e=>by omega) (Nat.le_of_lt h.buf.lt))⟩
theorem Bv.skip {w wr:X}{g cap k:Nat}{x:av}(h:Bv w g cap x k wr)(a:k<x.length)(hd:Fm.dirty x[k]=F):Bv w g cap x (k+1) wr:=⟨by rw[Fm.K3 a hd];exact h.buf,h.below⟩
theorem K4 (s:ay)(w:X)(hs:s.size<=1000000):
 Calls prog 357 #[V s] w fun e w'=>e=.returned (V ⟨(Fm.safe s.data.toList).toArray⟩)∧Below w.heap.size w w':=by
 have hl:=Ch.iK s;have H1:=H9 (GA s 47 w (by unfold maxLen;omega));have H2:=H9 (GA s 92 w (by unfold maxLen;omega));go_enter func357,ntmps357;go_upto_region 1 with fail
 go_cut [3] (fun v wd=>∃p:Nat,v=I J ((p:Int)-1)∧p<=s.size∧s.data.toList.drop p=Fm.tail s.data.toList∧wd=w)
 case first =>
  go_wp2_with fail
  refine H1.o.mono ?_;rintro e w1 ⟨D,rfl,hr1,f⟩;subst f;go_wp2_with fail
  refine H2.o.mono ?_;rintro e w2 ⟨G,rfl,hr2,f⟩;subst f;obtain⟨q1,q2,q3⟩:=SB hr1 hr2;rw[hl] at q2;have q:=H9 q3;by_cases hlt:D<G
  . have e:max D G=G:=by omega
    rw[e] at q q1 q2;go_wp2;go_meet;exact⟨(G+1).toNat,by rw[show(((G+1).toNat:Nat):Int)-1=G by omega],by omega,q.o,rfl⟩
  . have e:max D G=D:=by omega
    rw[e] at q q1 q2;go_wp2;go_meet;exact⟨(D+1).toNat,by rw[show(((D+1).toNat:Nat):Int)-1=D by omega],by omega,q.o,rfl⟩
 case rest =>
 obtain⟨p,rfl,hps,q3,f⟩:=hcut;subst f;have ajS:(p:Int)<=s.size:=by omega
 have hx:(s.extract p s.size).data.toList=Fm.tail s.data.toList:=by
  rw[<-q3,Lib.extract_to_end]
 have hxs:(s.extract p s.size).size=(Fm.tail s.data.toList).length:=Ch.size_of_list hx;have htl:(Fm.tail s.data.toList).length<=s.size:=by rw[<-q3,bT,hl];omega
 obtain⟨g,w3,uN,hB3,hBf⟩:=Iw (P:=prog) wc (s.extract p s.size) 9 31 5 (by rw[hxs];unfold maxLen;omega) underlying9 underlying31 underlying5;rw[hx] at hBf;rw[hxs] at uN;have HSf:Hid (Fm.safe s.data.toList=Fm.named ((Fm.F5 ((Fm.tail s.data.toList).map Fm.yM)).take 40)):=rfl;have agq:Hid (Bv wc wc.heap.size g (Fm.tail s.data.toList) 0 w3):=⟨by rw[Fm.KY];exact hBf,hB3⟩;obtain⟨B,hsf⟩:∃B,Fm.safe s.data.toList=B:=⟨_,rfl⟩;rw[hsf] at HSf;have H:=H9 hsf;generalize Fm.tail s.data.toList=x at *;obtain⟨n,hn⟩:∃n,x.length=n:=⟨_,rfl⟩;have HN:=H9 hn;rw[hn] at uN htl;have hn6:n<=1000000:=by omega
 go_wp2;go_loopw [19] (fun vi wr=>∃k:Nat,k<=n∧vi=I J k∧Bv wc wc.heap.size g x k wr) (fun vi _=>n-(intOf vi).toNat)
 case atStart=>exact⟨0,aA _,rfl,agq.o⟩
 case round =>
  obtain⟨k,hk,rfl,hR⟩:=hrel;have L:=H9 hR;by_cases hlt:k<n
  . have r:k<x.length:=by rw[HN.o];exact hlt
    have hlt':(k:Int)<n:=by omega
    have hcap:n<=g:=by have:=L.o.buf.le;rw[Fm.rX,HN.o] at this;exact this
    have ck:wr.cell? ⟨wc.heap.size,k,U⟩=some (I .u8 (x[k].toNat:Int)):=by
     have h1:k<(Fm.nA k x).length:=by rw[Fm.rX];exact r
     have:=L.o.buf.holds k _ (kF _ k h1);rw[Fm.SA r] at this;exact this
    have fk:wr.frozen? ⟨wc.heap.size,k,U⟩=F:=(L.o.buf.there k (by omega)).2;have UF:=L.o.store r;have HS2:=H9 (L.o.skip r);have HV:=H9 (fun W=>ru (x[k].toNat:Int) W);have T:∀d:UInt8,((x[k].toNat:Int)==(d.toNat:Int))=decide (x[k]=d):=fun d=>by
     rw[aH,aS,bP];constructor
     . intro e;exact dM.1 (by omega)
     . intro e;rw[e]
    have t9:((x[k].toNat:Int)==9)=decide (x[k]=9):=T 9;have t34:((x[k].toNat:Int)==34)=decide (x[k]=34):=T 34;have t58:((x[k].toNat:Int)==58)=decide (x[k]=58):=T 58;have HD:Hid (Fm.dirty x[k]=(decide (x[k]=9)||decide (x[k]=34)||decide (x[k]=58)||!Ch.visible x[k].toNat)):=by unfold Hid Fm.dirty;rfl
    generalize x[k]=c at *;by_cases h9:c=9
    . have t:Fm.dirty c=true:=by rw[HD.o,aI h9];rfl
      rw[aI h9] at t9;have y:=H9 (UF t);go_wp2;go_roundw
      case rel=>exact⟨k+1,by omega,by go_num,y.o⟩
      case measure=>simp[intOf];omega
    . rw[aJ h9] at t9;by_cases ME:c=34
      . have t:Fm.dirty c=true:=by rw[HD.o,aI ME];simp
        rw[aI ME] at t34;have y:=H9 (UF t);go_wp2;go_roundw
        case rel=>exact⟨k+1,by omega,by go_num,y.o⟩
        case measure=>simp[intOf];omega
      . rw[aJ ME] at t34;by_cases z:c=58
        . have t:Fm.dirty c=true:=by rw[HD.o,aI z];simp
          rw[aI z] at t58;have y:=H9 (UF t);go_wp2;go_roundw
          case rel=>exact⟨k+1,by omega,by go_num,y.o⟩
          case measure=>simp[intOf];omega
        . rw[aJ z] at t58;rw[aJ h9,aJ ME,aJ z] at HD;cases hv:Ch.visible (c.toNat:Int)
          . have t:Fm.dirty c=true:=by rw[HD.o,hv];rfl
            rw[hv] at HV;have y:=H9 (UF t);go_wp2_with (go_at_call 230;refine(HV.o _).mono ?_;rintro e w4 ⟨rfl,f⟩;subst f)
            go_roundw
            case rel=>exact⟨k+1,by omega,by go_num,y.o⟩
            case measure=>simp[intOf];omega
          . have t:Fm.dirty c=F:=by rw[HD.o,hv];rfl
            rw[hv] at HV;have y:=H9 (HS2.o t);go_wp2_with (go_at_call 230;refine(HV.o _).mono ?_;rintro e w4 ⟨rfl,f⟩;subst f)
            go_roundw
            case rel=>exact⟨k+1,by omega,by go_num,y.o⟩
            case measure=>simp[intOf];omega
  . obtain rfl:k=n:=by omega
    have hIs:gN wr (some ⟨wc.heap.size,0,U⟩) g (x.map Fm.yM):=by
     have:=L.o.buf.tQ;rw[<-HN.o,Fm.N7] at this;exact this
    have HU:=H9 (NY wr _ g k _ hIs (by rw[aF];exact HN.o));have adV:Hid (B=Fm.named ((Fm.F5 (x.map Fm.yM)).take 40)):=HSf.o;have N:=H9 L.o.below;go_wp2_with fail
    refine HU.o.mono ?_;rintro e w4 ⟨gJ,a,b,rfl,hn',hI',f⟩;subst f;have adW:b=(Fm.F5 (x.map Fm.yM)).length:=hn';have adX:gN w4 gJ a (Fm.F5 (x.map Fm.yM)):=hI';have Zn:=H9 adW;have HI':=H9 adX
    clear hn' hI' adW adX HU;generalize Fm.F5 (x.map Fm.yM)=u at *;have V9:b<=a:=by rw[Zn.o];exact HI'.o.1
    have C:∀j,j=min b 40->0<j->(convert 31 9 (.slice gJ j a)).run prog w4=.ok (V ⟨B.toArray⟩) w4:=fun j hj h0=>by
     have h1:=HI'.o.first j (by rw[<-Zn.o];omega);have h2:=h1.str (P:=prog) 31 9 5 underlying31 underlying5 underlying9;have h3:(u.take j).length=j:=by rw[bW,<-Zn.o];omega
     rw[h3] at h2;have h4:B=u.take j:=by
      rw[adV.o,hj];have:u.take 40=u.take (min b 40):=by
       rcases Nat.le_total b 40 with e | e
       . rw[dP e,dJ (by rw[<-Zn.o];exact e),dJ (by rw[<-Zn.o];omega)]
       . rw[Nat.min_eq_right e]
      rw[this];unfold Fm.named;rw[if_neg];intro e;rw[hj] at h3;rw[e] at h3;simp at h3;omega
     rw[h4];exact h2
    have i:=H9 C;clear C;by_cases h0:b=0
    . subst h0;have HF:Hid (B=[102,105,108,101]):=by
       unfold Hid;have hu:u=[]:=dh Zn.o.symm;rw[adV.o,hu];rfl
      clear i;go_wp2;go_ret;exact⟨by rw[H.o,HF.o];rfl,N.o⟩
    . by_cases h40:b<=40
      . have S:=i.o b (by omega) (by omega);have t0:((b:Int)==0)=F:=by rw[aR];omega
        have h4a:(b:Int)<=40:=by omega
        obtain⟨l,m⟩:∃l:ay,(⟨B.toArray⟩:ay)=l:=⟨_,rfl⟩;rw[m] at S;have N8:=H9 m;go_wp2;go_ret;exact⟨by rw[H.o,N8.o];rfl,N.o⟩
      . have S:=i.o 40 (by omega) (by omega);have h4a:¬(b:Int)<=40:=by omega
        have h4b:(40:Int)<b:=by omega
        have h4c:(40:Int)<=a:=by omega
        obtain⟨l,m⟩:∃l:ay,(⟨B.toArray⟩:ay)=l:=⟨_,rfl⟩;rw[m] at S;go_wp2;go_ret;exact⟨by rw[H.o,m];rfl,N.o⟩
theorem abH (s:ay)(k:Nat):(s.extract 0 k).data.toList=s.data.toList.take k:=by
 rw[Lib.extract_data];simp
theorem ags (s:ay)(i:Nat)(h:i+2<s.size):(s.extract (i+1) (i+3)).data.toList=[s[i+1]'(by omega),s[i+2]'(by omega)]∧s.data.toList.drop i=s[i]'(by omega)::s[i+1]'(by omega)::s[i+2]'(by omega)::s.data.toList.drop (i+3):=by
 have b:=Ch.iK s;have d:∀k (a:k<s.size),s.data.toList.drop k=s[k]::s.data.toList.drop (k+1):=fun k a=>by
  rw[aD (by rw[b];exact a),byte_at s k a]
 refine⟨?_,by rw[d i (by omega),d (i+1) (by omega),d (i+2) (by omega)]⟩;rw[Lib.extract_data,show i+3-(i+1)=2 by omega,d (i+1) (by omega),d (i+2) (by omega)];rfl
def Fm.vY (o:Option (av)):Value:=.tuple #[V ⟨(o.getD []).toArray⟩,.bool o.isSome]
structure K6 (w:X)(l:av)(i:Nat)(ao:ak)(cap n:Nat)(wr:X):Prop where
 own:∃bs,iA wr w.heap.size 5 ao cap bs∧n=bs.length∧n<=i∧Fm.dec (l.drop 7)=Fm.decs bs (l.drop i)
 below:Below w.heap.size w wr
theorem K6.more {w wr b:X}{l bs:av}{c:UInt8}{ao j:ak}{cap m n i:Nat}{o:Obj}(d:Below w.heap.size w wr)(p:iA wr w.heap.size 5 ao cap bs)(f:iA b w.heap.size 5 j m (bs++[c]))(g:(wr.alloc o).grownBy b (fV ao))(q:n=bs.length)(r:n+1<=i)(hd:Fm.dec (l.drop 7)=Fm.decs (bs++[c]) (l.drop i)):K6 w l i j m (n+1) b:=by
 refine⟨⟨bs++[c],f,by rw[aV,q];rfl,r,hd⟩,(d.alloc d.size o).grown g (by rw[fG];have:=d.size;omega) (fun k e=>?_)⟩;cases ao with
 | none=>simp[fV] at e
 | some a=>simp[fV] at e;have:=(p.block a rfl).1;omega
theorem Od (s:ay)(w:X)(hs:s.size<=1000000):
 Calls prog 356 #[V s] w fun e w'=>e=.returned (Fm.vY (Fm.coded s.data.toList))∧Below w.heap.size w w':=by
 have u:=Ch.iK s;by_cases h7:s.size<7
 . have m:Hid (Fm.coded s.data.toList=U):=by unfold Hid Fm.coded;rw[if_pos (Or.inl (by rw[u];exact h7))]
   have t7:decide ((s.size:Int)<7)=true:=aI (by omega);go_enter func356,ntmps356;go_wp2;go_ret2;exact⟨by rw[m.o];rfl,eY _ _⟩
 . have t7:decide ((s.size:Int)<7)=F:=aJ (by omega);have h7':(7:Int)<=s.size:=by omega
   have hx:=abH s 7;have N:(s.extract 0 7).size=7:=by rw[Ch.size_of_list hx,bW,u];omega
   have S:=oF (s.extract 0 7) w (by rw[N];unfold maxLen;omega);rw[hx] at S;by_cases H:Ch.lower (s.data.toList.take 7)=Fm.adl
   . have m:Hid (Fm.coded s.data.toList=Fm.dec (s.data.toList.drop 7)):=by unfold Hid Fm.coded;rw[if_neg (fun e=>by rcases e with e | e;rw[u] at e;exact h7 e;exact e H)]
     have tu:((⟨(Ch.lower (s.data.toList.take 7)).toArray⟩:ay).toList==[117,116,102,45,56,39,39])=true:=by
      rw[aS,Lib.toList_data];exact H
     generalize (⟨(Ch.lower (s.data.toList.take 7)).toArray⟩:ay)=lo at *;go_enter func356,ntmps356;obtain⟨i0,T,hz0,hz1,p⟩:=info_parts jJ;have Hi:=T;have kY:=H9 hz0;have kT:=H9 hz1;have kZ:=H9 p
     go_wp2_with (go_at_call 260;refine S.mono ?_;rintro e w1 ⟨rfl,q⟩)
     go_loopw [4,5] (fun vb vi wr=>∃(i n:Nat) (ao:ak) (r:Nat),7<=i∧i<=s.size∧vi=I J i∧vb=.slice ao n r∧K6 w s.data.toList i ao r n wr) (fun _ vi _=>s.size-(intOf vi).toNat)
     case atStart=>exact⟨7,0,U,0,aM _,by omega,rfl,rfl,⟨⟨[],iA.nil _ _ _,rfl,by omega,(Fm.Oa _).symm⟩,q⟩⟩
     case round =>
      obtain⟨i,n,ao,r,hi7,his,rfl,rfl,hR⟩:=hrel;obtain⟨⟨bs,hO,hn,hni,hd⟩,hB⟩:=hR;have x:=H9 hO;have y:=H9 hn;have k:=H9 hd;have t:=H9 hB
      clear hO hn hd hB;by_cases z:i<s.size
      . have hlt':(i:Int)<s.size:=by omega
        have B:s.data.toList.drop i=s[i]::s.data.toList.drop (i+1):=by rw[aD (by rw[u];exact z),byte_at s i z]
        by_cases d:s[i]=37
        . have t37:((s[i].toNat:Int) != 37)=F:=by rw[d];rfl
          by_cases hsh:s.size-i<3
          . have tsh:decide ((s.size:Int)-i<3)=true:=aI (by omega);have C:Hid (Fm.coded s.data.toList=U):=by
             unfold Hid;rw[m.o,k.o,B,d,Fm.N9 (by rw[bT,u];omega)]
            go_wp2;go_ret2;exact⟨by rw[C.o];rfl,t.o⟩
          . have tsh:decide ((s.size:Int)-i<3)=F:=aJ (by omega);obtain⟨D,G⟩:=ags s i (by omega);have p:(s.extract (i+1) (i+3)).size=2:=Ch.size_of_list D;have f:=fun W=>yZ (s.extract (i+1) (i+3)) W (by rw[p];unfold maxLen;omega);rw[D,Fm.Oc] at f;rw[d] at G;rw[G] at k;have i1:(i:Int)+1<=(i:Int)+3:=by omega
            have i3:(i:Int)+3<=s.size:=by omega
            have e1:((i:Int)+1).toNat=i+1:=by omega
            have e3:((i:Int)+3).toNat=i+3:=by omega
            generalize s[i+1]=a at *;generalize s[i+2]=b at *;by_cases c:0<=Ch.hex a.toNat∧0<=Ch.hex b.toNat
            . obtain⟨hbt,hle⟩:=Fm.WL c.1 c.2;rw[Fm.WJ c.1 c.2] at k;rw[if_pos c] at f;have hge:0<=16*Ch.hex a.toNat+Ch.hex b.toNat:=by omega
              generalize 16*Ch.hex (a.toNat:Int)+Ch.hex (b.toNat:Int)=v at *;generalize v.toNat.toUInt8=L at *;subst hbt;have hwr:IntKind.u8.wrap (L.toNat:Int)=L.toNat:=by
               rw[IntKind.wrap_u8];have:=L.toNat_lt;omega
              have hnc:n+1<=140737488355328:=by omega
              go_wp2_with (first
               | (go_at_call 358;refine(f _).mono ?_;rintro e w2 ⟨rfl,hw⟩;subst hw)
               | (at_builtin;refine jo rfl (.tmp 50) (.tmp 53) 31 rfl w.heap.size 5 i0 underlying31 Hi kY.o kT.o kZ.o (l:=bs) (l2:=[L]) rfl y.o.symm (x.o.alloc _) rfl rfl (gN.one _ _ _ _) (by omega) (by rw[fG];have:=t.o.size;omega) ?_;intro kI gZ w3 g j;have rZ:=H9 g;have xU:=H9 j;clear g j))
              go_roundw
              case rel=>exact⟨i+3,n+1,kI,gZ,by omega,by omega,by go_num,rfl,K6.more t.o x.o rZ.o xU.o y.o (by omega) k.o⟩
              case measure=>simp[intOf];omega
            . have C:Hid (Fm.coded s.data.toList=U):=by
               unfold Hid;rw[m.o,k.o,Fm.WK c]
              rw[if_neg c] at f;go_wp2_with (go_at_call 358;refine(f _).mono ?_;rintro e w2 ⟨rfl,hw⟩;subst hw)
              go_ret2;exact⟨by rw[C.o];rfl,t.o⟩
        . have t37:((s[i].toNat:Int) != 37)=true:=by rw[cK];intro e;exact d (dM.1 (by show _=37;omega))
          rw[B,Fm.SC d] at k;go_wp2_with (at_builtin;refine jo rfl (.tmp 27) (.tmp 31) 31 rfl w.heap.size 5 i0 underlying31 Hi kY.o kT.o kZ.o (l:=bs) (l2:=[s[i]]) rfl y.o.symm (x.o.alloc _) rfl rfl (gN.one _ _ _ _) (by omega) (by rw[fG];have:=t.o.size;omega) ?_;intro kI gZ w3 g j;have rZ:=H9 g;have xU:=H9 j;clear g j)
          go_roundw
          case rel=>exact⟨i+1,n+1,kI,gZ,by omega,by omega,by go_num,rfl,K6.more t.o x.o rZ.o xU.o y.o (by omega) k.o⟩
          case measure=>simp[intOf];omega
      . obtain rfl:i=s.size:=by omega
        have hcv:=x.o.tQ.str (P:=prog) 31 9 5 underlying31 underlying5 underlying9;rw[<-y.o] at hcv;have C:Hid (Fm.coded s.data.toList=some bs):=by
         unfold Hid;rw[m.o,k.o,aK (by rw[u];exact aM _),Fm.WI]
        go_wp2;go_ret2;exact⟨by rw[C.o];rfl,t.o⟩
   . have m:Hid (Fm.coded s.data.toList=U):=by unfold Hid Fm.coded;rw[if_pos (Or.inr H)]
     have tu:((⟨(Ch.lower (s.data.toList.take 7)).toArray⟩:ay).toList==[117,116,102,45,56,39,39])=F:=by
      rw[aR,Lib.toList_data];exact H
     generalize (⟨(Ch.lower (s.data.toList.take 7)).toArray⟩:ay)=lo at *;go_enter func356,ntmps356;go_wp2_with (go_at_call 260;refine S.mono ?_;rintro e w1 ⟨rfl,q⟩)
     go_ret2;exact⟨by rw[m.o];rfl,q⟩
end Go.Proofs.YthhklgjjnaeaoaaGreatDoor
/- Small texts, one behind the other: GaQ, GaR, GaT, GaU. -/
import Derived.Test.YtjmndjmhjleabaaGreatDoorAl
import Derived.Test.YtjmndjmhjleabaaGreatDoorAm
import Derived.Test.YtjmndjmhjleabaaGreatDoorPk49
import Derived.Lib.SlBytesConst
import Derived.Test.YtjmndjmhjleabaaGreatDoorPk27
import Derived.Test.YtjmndjmhjleabaaGreatDoorPk25
import Derived.Test.YtjmndjmhjleabaaGreatDoorPk10
import Derived.Test.YtjmndjmhjleabaaGreatDoorPk16
import Derived.Test.YtjmndjmhjleabaaGreatDoorRfReqs
set_option maxHeartbeats 8000000
set_option maxRecDepth 100000
open Go.Proofs.Tryz
namespace Go.Proofs.YtjmndjmhjleabaaGreatDoor
open Go.RowKit
def ZQ:av:=[71,69,84,32,47,32,72,84,84,80,47,49,46,49,13,10,72,111,115,116,58,32,97,13,10,13,10]
def gbT:av:=[72,84,84,80,47,49,46,49,32,52,48,52,32,78,111,116,32,70,111,117,110,100,13,10,67,111,110,116,101,110,116,45,76,101,110,103,116,104,58,32,48,13,10,13,10]
theorem ZR:Rq.outs Rq.start ZQ=[.head ⟨[71,69,84],[47],1,[([72,111,115,116],[97])],0⟩,.fin]:=by rfl
theorem ZT:Gt.textOf (404,[],[])=gbT:=by decide +kernel
theorem ZU:Gt.feed Tu.iG Sr.new Gt.qg ZQ=(Sr.new,⟨Rq.fold Rq.start ZQ,Rq.hd0,[]⟩,gbT):=by
 unfold Gt.feed Gt.Dt;rw[show Gt.qg.rq=Rq.start from rfl,ZR];rw[<-ZT];rfl
theorem ZV:Rq.busy (Rq.fold Rq.start ZQ)=false:=by rfl
theorem acJ (W:World):iH (W.alloc (.cells #[.int .u8 71,.int .u8 69,.int .u8 84,.int .u8 32,.int .u8 47,.int .u8 32,.int .u8 72,.int .u8 84,.int .u8 84,.int .u8 80,.int .u8 47,.int .u8 49,.int .u8 46,.int .u8 49,.int .u8 13,.int .u8 10,.int .u8 72,.int .u8 111,.int .u8 115,.int .u8 116,.int .u8 58,.int .u8 32,.int .u8 97,.int .u8 13,.int .u8 10,.int .u8 13,.int .u8 10] 5 (27,28))) (some ⟨W.heap.size,0,none⟩) 27 ZQ:=by
 have h:=jo.made W #[.int .u8 71,.int .u8 69,.int .u8 84,.int .u8 32,.int .u8 47,.int .u8 32,.int .u8 72,.int .u8 84,.int .u8 84,.int .u8 80,.int .u8 47,.int .u8 49,.int .u8 46,.int .u8 49,.int .u8 13,.int .u8 10,.int .u8 72,.int .u8 111,.int .u8 115,.int .u8 116,.int .u8 58,.int .u8 32,.int .u8 97,.int .u8 13,.int .u8 10,.int .u8 13,.int .u8 10] 27 5 (27,28);refine⟨aM _,(fun e=>by cases e),fun j hj=>⟨_,rfl,?_⟩⟩;refine h.cell ?_;exact lM ZQ j hj
theorem FV (w:World)(hP:mW w):
 Calls prog 6 #[] w fun e w'=>e=.returned (.bool true)∧aj w w':=by
 have HP:=H9 hP;have kc:=fun(w:World) (C:Array Value) (n c:Nat)=>Lib.run_convert_bytes_const (P:=prog) w 31 5 C n c underlying31 underlying5;clear hP;go_enter func6,ntmps6;go_wp2_with fail
 refine(Ay w).mono ?_;rintro e w1 ⟨gs,rfl,hS1,hb1⟩;have HN:=H9 (EX hS1);have HB1:=H9 hb1;clear hS1 hb1;go_wp2_with fail
 refine HN.o.mono ?_;rintro e w2 ⟨rfl,hG2,jV⟩;have hz1:=HB1.o.size;have hb2:aj w w2:=HB1.o.trans (jV.below (fun k e=>e) hz1);have ae9:jC w2 (fun k=>w.heap.size<=k∧k<w2.heap.size) w1.heap.size gs Sr.new (fun _=>Gt.qg):=hG2.mono (fun k hk e=>⟨by
  rcases e with e | e
  . exact e
  . omega,hk⟩)
 have jq:=(fJ _ w2).alloc (aM _) (.cells #[.int .u8 71,.int .u8 69,.int .u8 84,.int .u8 32,.int .u8 47,.int .u8 32,.int .u8 72,.int .u8 84,.int .u8 84,.int .u8 80,.int .u8 47,.int .u8 49,.int .u8 46,.int .u8 49,.int .u8 13,.int .u8 10,.int .u8 72,.int .u8 111,.int .u8 115,.int .u8 116,.int .u8 58,.int .u8 32,.int .u8 97,.int .u8 13,.int .u8 10,.int .u8 13,.int .u8 10] 5 (27,28));have HFe:Hid (Calls prog 13 #[.pointer (some ⟨w1.heap.size,0,none⟩),.int .i64 0,.slice (some ⟨w2.heap.size,0,none⟩) 27 27] (w2.alloc (.cells #[.int .u8 71,.int .u8 69,.int .u8 84,.int .u8 32,.int .u8 47,.int .u8 32,.int .u8 72,.int .u8 84,.int .u8 84,.int .u8 80,.int .u8 47,.int .u8 49,.int .u8 46,.int .u8 49,.int .u8 13,.int .u8 10,.int .u8 72,.int .u8 111,.int .u8 115,.int .u8 116,.int .u8 58,.int .u8 32,.int .u8 97,.int .u8 13,.int .u8 10,.int .u8 13,.int .u8 10] 5 (27,28))) fun e w'=>QE (fun k=>w.heap.size<=k∧k<w2.heap.size) (w2.alloc (.cells #[.int .u8 71,.int .u8 69,.int .u8 84,.int .u8 32,.int .u8 47,.int .u8 32,.int .u8 72,.int .u8 84,.int .u8 84,.int .u8 80,.int .u8 47,.int .u8 49,.int .u8 46,.int .u8 49,.int .u8 13,.int .u8 10,.int .u8 72,.int .u8 111,.int .u8 115,.int .u8 116,.int .u8 58,.int .u8 32,.int .u8 97,.int .u8 13,.int .u8 10,.int .u8 13,.int .u8 10] 5 (27,28))) w1.heap.size gs (fun _=>Gt.qg) 0 (Sr.new,⟨Rq.fold Rq.start ZQ,Rq.hd0,[]⟩,gbT) 0 e w'):=by
  have:=AR (w:=w2.alloc (.cells #[.int .u8 71,.int .u8 69,.int .u8 84,.int .u8 32,.int .u8 47,.int .u8 32,.int .u8 72,.int .u8 84,.int .u8 84,.int .u8 80,.int .u8 47,.int .u8 49,.int .u8 46,.int .u8 49,.int .u8 13,.int .u8 10,.int .u8 72,.int .u8 111,.int .u8 115,.int .u8 116,.int .u8 58,.int .u8 32,.int .u8 97,.int .u8 13,.int .u8 10,.int .u8 13,.int .u8 10] 5 (27,28))) HP.o (then_ hb2 jq) (fun i e=>e.1) (ae9.stay jq) Sr.Ok.new 0 (by decide) Gt.xJ.new ZQ (acJ w2) (fun _ a e=>by injection e with e;subst e;exact fun x=>absurd x.2 (Nat.lt_irrefl _)) rfl (by decide);rw[ZU] at this;exact this
 have HB3:=H9 (then_ hb2 jq);have hz2:w.heap.size<=w2.heap.size:=hb2.size;have HZ2:=H9 hz2;clear hG2 jV hb2 ae9 jq HN hz1 hz2;go_wp2_with fail
 refine HFe.o.mono ?_;rintro e w3 ⟨⟨ao,cap,n,rfl,hn,hI⟩,hG3,oQ⟩;have hn45:n=45:=hn;subst hn45;obtain⟨bb,oo,rfl,_⟩:=hI.lit (by decide);have hcp:=hI.1;have anJ:(45:Nat)<=cap:=hcp;have hb3:aj w w3:=HB3.o.trans (oQ.below (fun k e=>e.1) HB3.o.size);have hcut:=hI.cut (gW:=some ⟨bb,oo+9,none⟩) 9 12 (by decide) (by decide) (fun _=>rfl);have hcv:=hcut.str (P:=prog) 31 9 5 underlying31 underlying5 underlying9;replace hcv:(convert 31 9 (.slice (some ⟨bb,oo+9,none⟩) 3 (cap-9))).run prog w3=.ok (.string ⟨#[52,48,52]⟩) w3:=hcv;have HRa:=H9 (fun W=>Mh (g:=w1.heap.size) 4 (Or.inr (by decide)) none 0 0 W);have HBu:Hid (Calls prog 20 #[.pointer (some ⟨w1.heap.size,0,none⟩),.int .i64 0] w3 fun e w'=>e=.returned (.bool false)∧w'=w3):=by
  have:=TW hG3 0 (by decide);rw[iQ,show(Rq.busy (Gt.Cn.rq ⟨Rq.fold Rq.start ZQ,Rq.hd0,[]⟩))=false from ZV] at this;exact this
 have HGo:Hid (Calls prog 11 #[.pointer (some ⟨w1.heap.size,0,none⟩),.int .i64 0] w3 fun e w'=>e=.returned (.int .i64 0)∧aj w w'):=by
  refine(O9 hG3 0 (by decide) (by rw[iQ]) (by rw[iQ];decide)).mono (fun e w' ⟨h1,h2⟩=>⟨h1,hb3.trans (h2.below (fun k e=>?_) hb3.size)⟩);rcases e with e | e
  . exact e.1
  . exact dG HB3.o.size e
 have ak7:(12:Int)<=(cap:Int):=by omega
 clear hI hG3 oQ hb3 hcut hcp hn;go_wp2_with fail
 refine(HRa.o _).mono ?_;rintro e w4 ⟨rfl,hw⟩;rw[hw];clear hw;go_wp2_with fail
 refine HBu.o.mono ?_;rintro e w4 ⟨rfl,hw⟩;rw[hw];clear hw;go_wp2_with fail
 refine HGo.o.mono ?_;rintro e w5 ⟨rfl,hb5⟩;have qJ:=H9 hb5;clear hb5;go_wp2;go_ret;exact⟨rfl,qJ.o⟩
section
variable {w6 wr w':World} {P1 P2:Nat->Prop} {g gs:Nat} {s:Sr.Sh} {c:Nat->Gt.Cn} {ao:ak} {cap:Nat} {out:av}
structure zR (P1:Nat->Prop)(w6:World)(g gs:Nat)(s:Sr.Sh)(c:Nat->Gt.Cn)(ao:ak)(cap:Nat)(out:av)(wr:World):Prop where
 two:∃A L,jC wr A g gs s c∧gZ wr L 5 ao cap out∧(∀k,A k->¬L k)∧(∀k,A k->P1 k∨w6.heap.size<=k)∧∀k,L k->w6.heap.size<=k
 turns:Turns P1 w6 wr
theorem zR.start (h:jC w6 P1 g gs s c):zR P1 w6 g gs s c none 0 [] w6:=⟨⟨P1,fun _=>False,h,gZ.nil _ _ _,fun _ _ e=>e,fun _ e=>Or.inl e,fun _ e=>e.elim⟩,Turns.refl _ _⟩
theorem zR.feed {w0:World}(h:zR P1 w6 g gs s c ao cap out wr)(hP:mW w0)(hW:aj w0 w6)(hF:∀i,P1 i->w0.heap.size<=i)(ok:Sr.Ok s)(k:Nat)(hk:k<4)(hc:Gt.xJ (c k))(l:av){bo:ak}{gK n:Nat}(hB:iH w6 bo gK l)(qP:l≠[]->∀a,bo=some a->¬P1 a.block)(hn:l.length=n)(hl:(c k).body.length+n<=20000):
 Calls prog 13 #[.pointer (some ⟨g,0,none⟩),.int .i64 (k:Int),.slice bo n gK] wr fun e w'=>∃(BZ:ak) (cap5 n5:Nat) (L:Nat->Prop),e=.returned (.tuple #[.slice BZ n5 cap5,.int .i64 (if (c k).rq.ph=4 then 18 else 0)])∧n5=(Gt.feed Tu.iG s (c k) l).2.2.length∧iH w' BZ cap5 (Gt.feed Tu.iG s (c k) l).2.2∧gZ w' L 5 ao cap out∧zR P1 w6 g gs (Gt.feed Tu.iG s (c k) l).1 (upd c k (Gt.feed Tu.iG s (c k) l).2.1) ao cap out w' ∧
  ∀Mg cap6 w'',gZ w'' (fun i=>jN out ao=some i∨w'.heap.size<=i) 5 Mg cap6 (out++(Gt.feed Tu.iG s (c k) l).2.2)->Turns (fun i=>jN out ao=some i) w' w''->zR P1 w6 g gs (Gt.feed Tu.iG s (c k) l).1 (upd c k (Gt.feed Tu.iG s (c k) l).2.1) Mg cap6 (out++(Gt.feed Tu.iG s (c k) l).2.2) w'':=by
 obtain⟨⟨A,L,h1,h2,h3,h4,h5⟩,hT⟩:=h;have hz:=hT.size;have hlt:l≠[]->∀a,bo=some a->a.block<w6.heap.size:=fun hne a e=>by
  subst e;have hp:0<l.length:=fE.2 hne;have:=gq w6 _ (hB.cell 0 hp);rwa[add_block] at this
 have hBr:iH wr bo gK l:=by
  by_cases hne:l=[]
  . subst hne;exact iH.empty wr hB
  . exact hB.turns hT (fun a e=>qP hne a e)
 refine(AR hP (hW.trans (hT.below hF hW.size)) (S:=fun k=>A k∧k<wr.heap.size) (fun i e=>?_) (h1.mono (fun k hk e=>⟨e,hk⟩)) ok k hk hc l hBr (fun hne a e e2=>?_) hn hl).mono ?_
 . rcases h4 i e.1 with e | e
   . exact hF i e
   . exact dG hW.size e
 . rcases h4 _ e2.1 with e3 | e3
   . exact qP hne a e e3
   . have:=hlt hne a e;omega
 . rintro e w5 ⟨⟨BZ,cap5,n5,he,UC,Ar⟩,K5,xq⟩;have hz5:=xq.size;have hL5:gZ w5 (fun k=>L k∧k<wr.heap.size) 5 ao cap out:=(h2.mono (fun k hk e=>⟨e,hk⟩)).turns xq (fun k e e2=>h3 k e2.1 e.1);have qK:Turns P1 w6 w5:=hT.trans xq (fun k e hk=>by
    rcases h4 k e.1 with e | e
    . exact e
    . omega)
   have hA:∀k,gN (fun k=>A k∧k<wr.heap.size) wr k->P1 k∨w6.heap.size<=k:=fun k e=>by
    rcases e with e | e
    . exact h4 k e.1
    . exact Or.inr (by omega)
   have hd:∀k,gN (fun k=>A k∧k<wr.heap.size) wr k->¬(L k∧k<wr.heap.size):=fun k e e2=>by
    rcases e with e | e
    . exact h3 k e.1 e2.1
    . have:=e2.2;omega
   have hin:∀i,jN out ao=some i->L i∧i<wr.heap.size:=fun i e=>by
    unfold jN at e;split at e
    . cases e
    . rename_i hne;rcases hL5 with ⟨_,_,q⟩ | ⟨q,_⟩
      . cases qP:ao with
        | none=>rw[qP] at e;cases e
        | some a=>rw[qP] at e;injection e with e;rw[<-e];exact q a qP
      . exact absurd q hne
   refine⟨BZ,cap5,n5,_,he,UC,Ar,hL5,⟨⟨_,_,K5,hL5,hd,hA,fun k e=>h5 k e.1⟩,qK⟩,fun Mg cap6 w7 Zz BA=>⟨⟨fun k=>gN (fun k=>A k∧k<wr.heap.size) wr k∧k<w5.heap.size,_,(K5.mono (fun k hk e=>⟨e,hk⟩)).turns BA (fun k e e2=>hd k e.1 (hin k e2)),Zz,fun k e e2=>?_,fun k e=>hA k e.1,fun k e=>?_⟩,qK.trans BA (fun k e hk=>?_)⟩⟩
   . rcases e2 with e2 | e2
     . exact hd k e.1 (hin k e2)
     . have:=e.2;omega
   . rcases e with e | e
     . exact h5 k (hin k e).1
     . omega
   . have:=h5 k (hin k e).1;omega
theorem zR.aside (h:zR P1 w6 g gs s c ao cap out wr){T:Nat->Prop}(ht:Turns T wr w')(hT:∀k,T k->k<w6.heap.size∧¬P1 k):∃A,jC w' A g gs s c∧iH w' ao cap out:=by
 obtain⟨⟨A,L,h1,h2,h3,h4,h5⟩,_⟩:=h;refine⟨A,h1.turns ht (fun k e e2=>?_),(h2.turns ht (fun k e e2=>?_)).wJ⟩
 . rcases h4 k e with e3 | e3
   . exact(hT k e2).2 e3
   . have:=(hT k e2).1;omega
 . have:=h5 k e;have:=(hT k e2).1;omega
end
theorem xY.cell_ {w:World}{bo:ak}{l:av}{b o cap:Nat}{ps:List Pc}{w4 wr:World}{P:Nat->Prop}(h:xY w bo l l.length (some ⟨b,o,none⟩) cap ps w4)(hT:Turns P w4 wr)(hP:∀k,P k->k<w.heap.size)(i:Nat)(hi:i<ps.length):wr.cell? ⟨b,o+i,none⟩=some (.slice ps[i].ao ps[i].l.length ps[i].cap):=by
 have hv:=h.own.nI.turns hT (fun a e=>by
  have hb:=(h.own.block a e).1;intro k;have:=hP _ k;omega)
 have hc:=hv.cell (j:=i) (u:=ps[i].v) (by unfold ZW;rw[dB,dD hi];rfl);rw[gI] at hc;exact hc
/-! ### plain: pieces, one behind the other -/
theorem Gt.Pg (s:Sr.Sh)(c:Gt.Cn)(ps:List (av))(i:Nat)(hi:i<ps.length):Gt.feeds Tu.iG s c (ps.take (i+1))=((Gt.feed Tu.iG (Gt.feeds Tu.iG s c (ps.take i)).1 (Gt.feeds Tu.iG s c (ps.take i)).2.1 ps[i]).1,(Gt.feed Tu.iG (Gt.feeds Tu.iG s c (ps.take i)).1 (Gt.feeds Tu.iG s c (ps.take i)).2.1 ps[i]).2.1,(Gt.feeds Tu.iG s c (ps.take i)).2.2++(Gt.feed Tu.iG (Gt.feeds Tu.iG s c (ps.take i)).1 (Gt.feeds Tu.iG s c (ps.take i)).2.1 ps[i]).2.2):=by
 rw[Gt.qZ,Gt.qZ,bO hi,dA,Gt.Bj];simp
theorem Gt.XI {s:Sr.Sh}(ok:Sr.Ok s){c:Gt.Cn}(hc:Gt.xJ c)(ps:List (av)):Sr.Ok (Gt.feeds Tu.iG s c ps).1∧Gt.xJ (Gt.feeds Tu.iG s c ps).2.1∧(Gt.feeds Tu.iG s c ps).2.1.body.length<=c.body.length+ps.flatten.length∧(Gt.feeds Tu.iG s c ps).2.2.length<=6000*(2*ps.flatten.length):=by
 rw[Gt.qZ];refine⟨Gt.YI Tu.iG aaZ ok c _,Gt.Qd Tu.iG hc s _,Gt.G6 Tu.iG s c _,?_⟩;have h1:=Gt.vR (Rq.outs c.rq ps.flatten) (g:=Gt.at_ s c) ok;have h2:=(Rq.nu ps.flatten c.rq).1;have h3:(Gt.at_ s c).out.length=0:=rfl;show(Gt.evs Tu.iG (Gt.at_ s c) (Rq.outs c.rq ps.flatten)).out.length<=_;omega
theorem Im (ps:List (av))(i:Nat):(ps.take i).flatten.length<=ps.flatten.length:=by
 conv=>rhs;rw[<-bX i ps,dA,aW]
 omega
theorem QF (ps:List (av))(i:Nat)(hi:i<ps.length):(ps.take i).flatten.length+ps[i].length<=ps.flatten.length:=by
 have:=Im ps (i+1);rw[bO hi,dA,aW] at this;simpa using this
theorem Gt.quiet_of (l:av)(h:∀i (hi:i<(Rq.of l).1.length),(Rq.of l).1[i].d.kind≠3):Gt.Quiet (Rq.outs Rq.start l):=by
 refine Gt.uh _ ?_;rw[(Rq.of_run l).ev];intro e he heq;obtain⟨i,hi,rfl⟩:=List.getElem_of_mem he;exact h i hi (by rw[heq];rfl)
theorem Gt.XW (ys:List (av))(h:Gt.Quiet (Rq.outs Rq.start ys.flatten))(i:Nat)(hi:i<ys.length):Gt.Quiet (Rq.outs (Rq.fold Rq.start (ys.take i).flatten) ys[i]):=by
 have e:ys.flatten=(ys.take (i+1)).flatten++(ys.drop (i+1)).flatten:=by rw[<-dA,bX]
 rw[e,Rq.jF] at h;have h1:=h.left;rw[bO hi,dA,Rq.jF] at h1;have h2:=h1.right;simpa using h2
structure Yi (ys:List (av))(i:Nat)(d:Gt.Cn):Prop where
 ok:Gt.xJ d
 rq:d.rq=Rq.fold Rq.start (ys.take i).flatten
 few:d.body.length<=(ys.take i).flatten.length
theorem Yi.start (ys:List (av)):Yi ys 0 Gt.qg:=⟨Gt.xJ.new,rfl,aA _⟩
theorem Yi.next {ys:List (av)}{i:Nat}{d:Gt.Cn}(h:Yi ys i d)(hi:i<ys.length)(s:Sr.Sh):Yi ys (i+1) (Gt.feed Tu.iG s d ys[i]).2.1:=by
 refine⟨Gt.Qd Tu.iG h.ok s _,?_,?_⟩
 . rw[bO hi,dA,Rq.jM,<-h.rq];show Rq.fold d.rq ys[i]=_;simp
 . rw[bO hi,dA,aW];have h1:=Gt.G6 Tu.iG s d ys[i];have h2:=h.few;have h3:[ys[i]].flatten.length=ys[i].length:=by simp
   omega
theorem Yi.quiet {ys:List (av)}{i:Nat}{d:Gt.Cn}(h:Yi ys i d)(hi:i<ys.length)(hq:Gt.Quiet (Rq.outs Rq.start ys.flatten))(s:Sr.Sh):(Gt.feed Tu.iG s d ys[i]).1=s :=
 Gt.Ng Tu.iG s d _ (by rw[h.rq];exact Gt.XW ys hq i hi)
theorem jC.cell {w:World}{S:Nat->Prop}{g gs:Nat}{s:Sr.Sh}{c:Nat->Gt.Cn}(h:jC w S g gs s c):w.cell? ⟨g,0,none⟩=some (.pointer (some ⟨gs,0,none⟩)):=by
 obtain⟨κ,x,hH,hS⟩:=h;exact(hH .row).1.store
theorem Uh {α:Type}(f:Nat->α)(a b c:α):upd (upd (upd f 0 a) 1 b) 0 c=upd (upd f 0 c) 1 b:=by
 funext j;unfold upd;split
 . rename_i h;subst h;rfl
 . rfl
theorem iH.older {w:World}{bo:ak}{cap:Nat}{l:av}(h:iH w bo cap l)(hne:l≠[])(a:Addr)(e:bo=Option.some a):a.block<w.heap.size:=by
 have hp:0<l.length:=fE.2 hne;rw[e] at h;have:=gq w _ (h.cell 0 hp);rwa[add_block] at this
theorem F4 (w:World)(hP:mW w)(l ol:av)(bo oo co:ak)(gK n aad m Pb nc:Nat)(cs:List Int)(hB:iH w bo gK l)(hn:l.length=n)(hO:iH w oo aad ol)(hm:ol.length=m)(hs:n+m<9223372036854775808)(hC:jo w co Pb nc (cs.map fun c=>Value.int .i64 c))(hnc:cs.length=nc):
 Calls prog 5 #[.slice bo n gK,.slice oo m aad,.slice co nc Pb] w fun e w'=>e=.returned (.bool true)∧aj w w':=by
 have HB:=H9 hB;have HC:=H9 hC;have HNc:=H9 hnc;have HN:=H9 hn;have HP:=H9 hP;have HO:=H9 hO;have HM0:=H9 hm
 have HBg:=H9 (FV w hP);clear hB hC hP hO;go_enter func5,ntmps5;go_wp2_with fail
 refine HBg.o.mono ?_;rintro e w1 ⟨rfl,h1⟩;have H1:=H9 h1;clear h1 hnc hn hm HBg;by_cases hbig:9000<n+m
 . have t:decide ((n:Int)+m > 9000)=true:=aI (by omega);go_wp2;go_ret;exact⟨rfl,H1.o⟩
 . have t:decide ((n:Int)+m > 9000)=false:=aJ (by omega);by_cases aoc:40<nc
   . have t2:decide ((nc:Int) > 40)=true:=aI (by omega);go_wp2;go_ret;exact⟨rfl,H1.o⟩
   . have t2:decide ((nc:Int) > 40)=false:=aJ (by omega);have hOl:m<=20000:=by omega
     have Z5:=H9 (JG ol oo aad w1 (HO.o.stay H1.o) (by rw[HM0.o];exact hOl));rw[HM0.o] at Z5;go_wp2_with fail
     refine Z5.o.mono ?_;rintro e w2 ⟨a2,c2,rfl,hE,hb2⟩;have HE:=H9 hE;have HB2:=H9 (then_ H1.o hb2)
     obtain⟨es,hes⟩:∃es,(Rq.of ol).1=es:=⟨_,rfl⟩;have HQ0:Hid ((∀i (hi:i<es.length),es[i].d.kind≠3)->Gt.Quiet (Rq.outs Rq.start ol)):=by subst hes;exact Gt.quiet_of ol
     have hlen:es.length<=9223372036854775000:=by
      have h1:=(Rq.of_run ol).ev;have h2:=(Rq.nu ol Rq.start).1;have h3:=Rq.join_length (Rq.outs Rq.start ol);rw[h1,hes] at h3;rw[HM0.o] at h2;omega
     rw[hes] at HE;rw[hes];generalize (Rq.of ol).2=bsy;clear hE hb2 hes Z5 t t2 H1;go_wp2;go_loopw [9] (fun vi wr=>∃i:Nat,i<=es.length∧vi=.int .i64 i∧wr=w2∧∀j (hj:j<es.length),j<i->es[j].d.kind≠3) (fun vi _=>es.length-(intOf vi).toNat)
     case atStart=>exact⟨0,aA _,rfl,rfl,fun j _ h=>absurd h (bZ _)⟩
     case round =>
      obtain⟨i,hi,rfl,hw,hK⟩:=hrel;have HK:=H9 hK;subst hw;clear hK;by_cases hlt:i<es.length
      . obtain⟨b,o,rfl,hcs⟩:=HE.o.lit (by rw[aF];omega);obtain⟨s,hev⟩:=hcs i (by rw[aF];exact hlt);rw[aG] at hev;have c0:wr.cell? ⟨b,o+i*12,none⟩=some (.int .i64 es[i].d.kind):=hev.at_ 0 _ rfl;have hcp:=HE.o.1;rw[aF] at hcp;have hlt':(i:Int)<es.length:=by omega
        clear hcs hev;by_cases hk:es[i].d.kind=3
        . have tk:(es[i].d.kind==3)=true:=by rw[aT];exact hk
          generalize es[i].d.kind=kd at *;go_wp2;go_ret;exact⟨rfl,HB2.o⟩
        . have tk:(es[i].d.kind==3)=false:=by rw[aS];exact hk
          have X7:Hid (∀j (hj:j<es.length),j<i+1->es[j].d.kind≠3):=fun j hj h=>by
           rcases aU j i with h1 | h1
           . exact HK.o j hj h1
           . obtain rfl:j=i:=by omega
             exact hk
          generalize es[i].d.kind=kd at *;go_wp2;go_roundw
          case rel=>exact⟨i+1,by omega,by go_num,by first | rfl | trivial,X7.o⟩
          case measure=>simp[intOf];omega
      . obtain rfl:i=es.length:=by omega
        have HQt:=H9 (HQ0.o (fun j hj=>HK.o j hj hj));have hlt':¬((es.length:Nat):Int)<(es.length:Nat):=by omega
        generalize wr=w2 at *;clear HK HQ0 HE hlen;go_wp2_with fail
        refine(Ay w2).mono ?_;rintro e w3 ⟨gs1,rfl,hS1,hb3⟩;have Zb:=H9 (EX hS1);have HB3:=H9 hb3;clear hS1 hb3;go_wp2_with fail
        refine Zb.o.mono ?_;rintro e w4 ⟨rfl,hG1,Ey⟩;have z3:=HB3.o.size;have z4:=Ey.size
        have agr:=hG1.mono (S':=fun i=>w2.heap.size<=i∧i<w4.heap.size) (fun i hi e=>⟨by
         rcases e with e | e
         . exact e
         . omega,hi⟩)
        have Us:=H9 agr;have jK:=H9 (HB3.o.trans (Ey.below (B:=w2.heap.size) (fun i e=>e) z3));clear hG1 agr Ey Zb;go_wp2_with fail
        refine(Ay w4).mono ?_;rintro e w5 ⟨gs2,rfl,hS2,hb5⟩;have MB:=H9 (EX hS2);have z5:=hb5.size;have ags:=H9 (Us.o.stay hb5);have qJ:=H9 hb5;clear hS2 hb5 Us;go_wp2_with fail
        refine MB.o.mono ?_;rintro e w6 ⟨rfl,hG2,qK⟩;have z6:=qK.size;have Us:=H9 (ags.o.turns qK (fun i e e2=>by omega));have HG2:=H9 (hG2.mono (S':=fun i=>w4.heap.size<=i∧i<w6.heap.size) (fun i hi e=>⟨by
         rcases e with e | e
         . exact e
         . omega,hi⟩))
        have hb6:aj w2 w6:=jK.o.trans ((qJ.o.trans (qK.below (B:=w4.heap.size) (fun i e=>e) z5)).mono (by omega));have aae:aj w w6:=then_ HB2.o hb6;have HPc:=H9 (EZ w6 l bo co gK n Pb nc cs (HB.o.stay aae) HN.o (by omega) (HC.o.stay aae) HNc.o (by omega));have u6:=H9 aae;have HZ:Hid (w.heap.size<=w2.heap.size∧w2.heap.size<=w3.heap.size∧w3.heap.size<=w4.heap.size∧w4.heap.size<=w5.heap.size∧w5.heap.size<=w6.heap.size):=⟨HB2.o.size,z3,z4,z5,z6⟩;clear hb6 aae hG2 qK MB HB3 jK qJ ags z3 z4 z5 z6;go_wp2_with fail
        refine HPc.o.mono ?_;rintro e w7 ⟨ps,ao,cap,rfl,hPr,hpl⟩;have hp0:0<ps.length:=by omega
        have hps:ps.length<=41:=by omega
        have Zt:=H9 hpl;clear hpl;obtain⟨rb,ro,rfl,_⟩:=hPr.own.nI.lit (by rw[EY];exact hp0);have LK:=H9 hPr;have Ii:=H9 (then_ u6.o hPr.below);have HPd:=H9 (EZ w7 ol oo co aad m Pb nc cs (HO.o.stay Ii.o) HM0.o (by omega) (HC.o.stay Ii.o) HNc.o (by omega));clear hPr HPc;go_wp2_with fail
        refine HPd.o.mono ?_;rintro e w8 ⟨qs,jy,cap2,rfl,hQr,hql⟩;have hqp:qs.length=ps.length:=by rw[hql,Zt.o]
        clear hql;obtain⟨qb,qo,rfl,_⟩:=hQr.own.nI.lit (by rw[EY,hqp];exact hp0);have hcap:=LK.o.own.nI.1;have aof:=hQr.own.nI.1;have h78:=hQr.below;have h68:aj w6 w8:=then_ LK.o.below h78;have HLs:=H9 (zR.start (Us.o.stay h68));have agu:=H9 (HG2.o.stay h68);have HQr:=H9 hQr;have HB8:=H9 (then_ Ii.o h78);have HZ8:Hid (w6.heap.size<=w7.heap.size∧w7.heap.size<=w8.heap.size):=⟨LK.o.below.size,h78.size⟩;have Ig:Hid ((ps.map Pc.l).flatten=l):=by unfold Hid;rw[LK.o.flat,bP]
        have HFq:Hid ((qs.map Pc.l).flatten=ol):=by unfold Hid;rw[hQr.flat,bP]
        have HQy:Hid (Gt.Quiet (Rq.outs Rq.start (qs.map Pc.l).flatten)):=by unfold Hid;rw[HFq.o];exact HQt.o
        have HFk:Hid (∀i,Sr.Ok (Gt.feeds Tu.iG Sr.new Gt.qg ((ps.map Pc.l).take i)).1∧Gt.xJ (Gt.feeds Tu.iG Sr.new Gt.qg ((ps.map Pc.l).take i)).2.1∧(Gt.feeds Tu.iG Sr.new Gt.qg ((ps.map Pc.l).take i)).2.1.body.length<=((ps.map Pc.l).take i).flatten.length∧(Gt.feeds Tu.iG Sr.new Gt.qg ((ps.map Pc.l).take i)).2.2.length<=6000*(2*((ps.map Pc.l).take i).flatten.length)):=fun i=>by
         have:=Gt.XI Sr.Ok.new Gt.xJ.new ((ps.map Pc.l).take i);refine⟨this.1,this.2.1,?_,this.2.2.2⟩;have h2:=this.2.2.1;have h3:Gt.qg.body.length=0:=rfl;omega
        obtain⟨j0,hj0,hy0,hy1,hy2⟩:=info_parts jO;have Hj:=H9 hj0;have MC:=H9 hy0;have ME:=H9 hy1;have MF:=H9 hy2
        have H68:=H9 h68;have H78:=H9 h78
        have HQp:=H9 hqp;clear hQr HPd hj0 hy0 hy1 hy2 Us HG2 h68 h78 hqp;have zV:Hid (zR (fun i=>w2.heap.size<=i∧i<w4.heap.size) w8 w3.heap.size gs1 (Gt.feeds Tu.iG Sr.new Gt.qg ((ps.map Pc.l).take 0)).1 (upd (upd (fun _=>Gt.qg) 0 (Gt.feeds Tu.iG Sr.new Gt.qg ((ps.map Pc.l).take 0)).2.1) 1 Gt.qg) none 0 (Gt.feeds Tu.iG Sr.new Gt.qg ((ps.map Pc.l).take 0)).2.2 w8):=by
         have h0:=HLs.o;have e1:upd (fun _=>Gt.qg) 0 Gt.qg=fun _=>Gt.qg:=upd_same (fun _=>Gt.qg) 0;have e2:upd (fun _=>Gt.qg) 1 Gt.qg=fun _=>Gt.qg:=upd_same (fun _=>Gt.qg) 1;unfold Hid;rw[List.take_zero];show zR _ _ _ _ Sr.new (upd (upd (fun _=>Gt.qg) 0 Gt.qg) 1 Gt.qg) none 0 [] _;rw[e1,e2];exact h0
        clear HLs;go_wp2;go_loopw [14,15] (fun va vi wr=>∃(i m:Nat) (gW:ak) (cap':Nat) (d:Gt.Cn),i<=ps.length∧vi=.int .i64 i∧va=.slice gW m cap'∧m=(Gt.feeds Tu.iG Sr.new Gt.qg ((ps.map Pc.l).take i)).2.2.length∧zR (fun i=>w2.heap.size<=i∧i<w4.heap.size) w8 w3.heap.size gs1 (Gt.feeds Tu.iG Sr.new Gt.qg ((ps.map Pc.l).take i)).1 (upd (upd (fun _=>Gt.qg) 0 (Gt.feeds Tu.iG Sr.new Gt.qg ((ps.map Pc.l).take i)).2.1) 1 d) gW cap' (Gt.feeds Tu.iG Sr.new Gt.qg ((ps.map Pc.l).take i)).2.2 wr∧Yi (qs.map Pc.l) i d) (fun _ vi _=>ps.length-(intOf vi).toNat)
        case atStart=>exact⟨0,0,none,0,Gt.qg,aA _,rfl,rfl,rfl,zV.o,Yi.start _⟩
        case round =>
         clear zV;obtain⟨i,m',gW,cap',d,hi,rfl,rfl,hm,hR,hOt⟩:=hrel;have HR:=H9 hR;have HM:=H9 hm;have HOt:=H9 hOt
         clear hR hm hOt;by_cases hlt:i<ps.length
         . have hlt':(i:Int)<ps.length:=by omega
           have acR:i<qs.length:=by rw[HQp.o];exact hlt
           have amd:(i:Int)<qs.length:=by omega
           have ci:=LK.o.cell_ ((Turns.of_below (S:=fun i=>w2.heap.size<=i∧i<w4.heap.size) H78.o).trans HR.o.turns (fun i e _=>e)) (fun j e=>by have:=HZ.o;omega) i hlt;have hpi:=LK.o.all ps[i] (aC hlt);have hqi:=HQr.o.all qs[i] (aC acR);have HQc:Hid (∀W,Turns (fun i=>w2.heap.size<=i∧i<w4.heap.size) w8 W->W.cell? ⟨qb,qo+i,none⟩=some (.slice qs[i].ao qs[i].l.length qs[i].cap)):=fun W hW=>HQr.o.cell_ hW (fun j e=>by have:=HZ.o;have:=HZ8.o;omega) i acR;have hlm:i<(ps.map Pc.l).length:=by rw[aF];exact hlt
           have hlq:i<(qs.map Pc.l).length:=by rw[aF];exact acR
           have OC:=Gt.Pg Sr.new Gt.qg (ps.map Pc.l) i hlm;have hfa:=QF (ps.map Pc.l) i hlm;have hfq:=QF (qs.map Pc.l) i hlq;have hfl:=bE List.length Ig.o;have agx:=bE List.length HFq.o;rw[HN.o] at hfl;rw[HM0.o] at agx;have hpl:(ps.map Pc.l)[i]=ps[i].l:=aG ..;have hql:(qs.map Pc.l)[i]=qs[i].l:=aG ..;rw[hpl] at OC hfa;rw[hql] at hfq;obtain⟨fk1,fk2,fk3,fk4⟩:=HFk.o i;have fk5:=(HFk.o (i+1)).2.2.2;have fk6:=(HFk.o (i+1)).1;have hft:=Im (ps.map Pc.l) (i+1);have hpb:iH w8 ps[i].ao ps[i].cap ps[i].l:=hpi.is.stay H68.o;have hqb:iH w8 qs[i].ao qs[i].cap qs[i].l:=hqi.is.stay H78.o;have hpk:ps[i].l≠[]->∀a,ps[i].ao=some a->¬(w2.heap.size<=a.block∧a.block<w4.heap.size):=fun hne a e=>by
            obtain⟨a0,e0,e1⟩:=hpi.blk hne a e;have hl0:l≠[]:=fun h0=>by
             have hn0:n=0:=by rw[<-HN.o,h0];rfl
             have:ps[i].l.length=0:=by omega
             exact hne (dK.1 this)
            have:=HB.o.older hl0 a0 e0;have:=HZ.o;rw[e1];omega
           have hqk:qs[i].l≠[]->∀a,qs[i].ao=some a->¬(w2.heap.size<=a.block∧a.block<w4.heap.size):=fun hne a e=>by
            obtain⟨a0,e0,e1⟩:=hqi.blk hne a e;have hl0:ol≠[]:=fun h0=>by
             have hn0:m=0:=by rw[<-HM0.o,h0];rfl
             have:qs[i].l.length=0:=by omega
             exact hne (dK.1 this)
            have:=HO.o.older hl0 a0 e0;have:=HZ.o;rw[e1];omega
           have HOn:=H9 (fun s=>HOt.o.next hlq s);have HOq:=H9 (fun s=>HOt.o.quiet hlq HQy.o s);rw[hql] at HOn HOq;have hdb:=HOt.o.few;have hdo:=HOt.o.ok;generalize ps[i]=p at *;generalize qs[i]=q at *;obtain⟨np,hnp⟩:∃np,p.l.length=np:=⟨_,rfl⟩;obtain⟨nq,hnq⟩:∃nq,q.l.length=nq:=⟨_,rfl⟩;rw[hnp] at hfa ci;rw[hnq] at hfq HQc;have oL:=H9 (HR.o.feed (w0:=w) HP.o HB8.o (fun j e=>by have:=HZ.o;omega) fk1 0 (by decide) (by rw[upd_ne _ _ (by decide),iQ];exact fk2) p.l hpb hpk hnp (by rw[upd_ne _ _ (by decide),iQ];omega));rw[upd_ne _ _ (by decide),iQ,Uh] at oL;generalize Gt.feeds Tu.iG Sr.new Gt.qg ((ps.map Pc.l).take i)=F at *;obtain⟨Fs,Fc,Fo⟩:=F;simp only at oL OC HR HM fk4;rw[OC] at fk5 fk6;generalize hFp:Gt.feed Tu.iG Fs Fc p.l=Fp at *;obtain⟨Gs,Gc,Go_⟩:=Fp;simp only at oL OC fk5 fk6;have sI:=H9 OC;have hsum:Fo.length+Go_.length<=200000000:=by rw[aW] at fk5;omega
           obtain⟨cd,hcd⟩:∃cd:Int,(if Fc.rq.ph=4 then (18:Int) else 0)=cd:=⟨_,rfl⟩;rw[hcd] at oL;have HFe:Hid (∀(Mg:ak) (cap6:Nat) (out:av) (W:World),zR (fun i=>w2.heap.size<=i∧i<w4.heap.size) w8 w3.heap.size gs1 Gs (upd (upd (fun _=>Gt.qg) 0 Gc) 1 d) Mg cap6 out W->Calls prog 13 #[.pointer (some ⟨w3.heap.size,0,none⟩),.int .i64 1,.slice q.ao nq q.cap] W fun e w'=>∃(v:Value) (d2:Gt.Cn),e=.returned v∧zR (fun i=>w2.heap.size<=i∧i<w4.heap.size) w8 w3.heap.size gs1 Gs (upd (upd (fun _=>Gt.qg) 0 Gc) 1 d2) Mg cap6 out w'∧Yi (qs.map Pc.l) (i+1) d2):=by
            intro Mg cap6 out W hW;have:=hW.feed (w0:=w) HP.o HB8.o (fun j e=>by have:=HZ.o;omega) fk6 1 (by decide) (by rw[iQ];exact hdo) q.l hqb hqk hnq (by rw[iQ];omega);rw[iQ,qm,HOq.o Gs] at this;refine this.mono ?_;rintro e w' ⟨x1,x2,x3,x4,he,_,_,_,h5,_⟩;exact⟨_,_,he,h5,HOn.o Gs⟩
           clear hpi hqi OC hfa hfq hfl agx hpl hql fk1 fk2 fk3 fk4 fk5 fk6 hft hpb hqb hpk hqk hFp hcd hlm hlq hnp hnq HOn HOq hdb hdo HR HOt;go_wp2_with fail
           refine oL.o.mono ?_;rintro e w9 ⟨BZ,cap5,n5,L5,rfl,UC,Ar,hL5,_,hfin⟩;have HN5:=H9 UC.symm;have HB9:=H9 Ar;have HL5:=H9 hL5;have NT:=H9 hfin;have Uz:=H9 HM.o.symm
           have hml:m'+n5<=200000000:=by rw[UC,HM.o];exact hsum
           clear UC Ar hL5 hfin oL hsum;go_wp2_with (at_builtin;refine mY rfl (.tmp 75) (.tmp 76) 31 rfl 5 j0 underlying31 Hj.o MC.o ME.o MF.o rfl rfl HL5.o Uz.o HB9.o HN5.o (by omega) ?_;intro Mg cap6 Y7 uT qK;have HF6:=H9 (NT.o Mg cap6 Y7 uT qK);have cq:=HQc.o Y7 HF6.o.turns;clear uT qK)
           refine(HFe.o _ _ _ _ HF6.o).mono ?_;rintro e w11 ⟨vf,d2,rfl,hR2,hO2⟩;have HR2:=H9 hR2;have Bp:=H9 hO2
           clear hR2 hO2;go_wp2;go_roundw
           case rel=>exact⟨i+1,m'+n5,Mg,cap6,d2,by omega,by go_num,rfl,by rw[sI.o];show _=(Fo++Go_).length;rw[aW,HM.o,HN5.o],by rw[sI.o];exact HR2.o,Bp.o⟩
           case measure=>simp[intOf];omega
         . obtain rfl:i=ps.length:=by omega
           have hlt2:¬((ps.length:Nat):Int)<(ps.length:Nat):=by omega
           have hfull:(ps.map Pc.l).take ps.length=ps.map Pc.l:=by rw[dO (by rw[aF];exact aM _)]
           have hR:=HR.o;have hm:=HM.o;obtain⟨fk1,fk2,fk3,fk4⟩:=HFk.o ps.length;rw[hfull,Gt.qZ,Ig.o] at hR hm fk1;have qK:=hR.turns;have agy:=agu.o.turns qK (fun i e e2=>by have:=HZ.o;omega);have hbr:aj w wr:=HB8.o.trans (qK.below (fun i e=>by have:=HZ.o;omega) HB8.o.size);have hBr:iH wr bo gK l:=by
            by_cases hne:l=[]
            . have:=HB.o;rw[hne] at this ⊢;exact iH.empty wr this
            . refine(HB.o.stay HB8.o).turns qK (fun a e=>?_);have:=HB.o.older hne a e;have:=HZ.o;omega
           have oL:=H9 (AR (w0:=w) HP.o hbr (fun i e=>by have:=HZ.o;omega) agy Sr.Ok.new 0 (by decide) Gt.xJ.new l hBr (fun hne a e e2=>by
            have:=HB.o.older hne a e;have:=HZ.o;omega) HN.o (by show 0+n<=20000;omega))
           have HBr:=H9 hbr;have HR2:=H9 hR;have Uz:=H9 hm;have pY:=H9 fk1
           clear hR hm fk1 fk2 fk3 fk4 agy hBr qK hfull HFk HM HR agu hbr HOt;generalize hFp:Gt.feed Tu.iG Sr.new Gt.qg l=F at *;obtain⟨Fs,Fc,Fo⟩:=F;simp only at oL HR2 Uz pY;rw[show(if Gt.qg.rq.ph=4 then (18:Int) else 0)=0 from rfl] at oL;go_wp2_with fail
           refine oL.o.mono ?_;rintro e w9 ⟨⟨ao7,Ja,n7,rfl,hn7,hB7⟩,Zz,BA⟩;obtain⟨A1,hG1,hB1⟩:=HR2.o.aside BA (fun i e=>by have:=HZ.o;have:=HZ8.o;omega);have Xl:aj w w9:=HBr.o.trans (BA.below (fun i e=>by have:=HZ.o;omega) HBr.o.size);have HSB:=H9 (fun(W:World) (hW:aj w9 W)=>xZ W gW ao7 cap' Ja m' n7 Fo Fo Uz.o.symm hn7.symm (hB1.stay hW) (hB7.stay hW));rw[aI (rfl:Fo=Fo)] at HSB;have y2:=hG1.cell;have z2:=Zz.cell;have yl:=hG1.lt;have zl:=Zz.lt;obtain⟨ks,kl,kao,kca,P1,hst⟩:=hG1.jS;obtain⟨kt,jl,jao,jca,P2,hss⟩:=Zz.jS;obtain⟨⟨y0,_⟩,_⟩:=pU hst.row;obtain⟨⟨z0,_⟩,_⟩:=pU hss.row;have uW:Hid (∀W,aj w9 W->Calls prog 18 #[.pointer (some ⟨ks,0,none⟩)] W fun e w'=>∃al,e=.returned (.slice al Fs.h.l.length Fs.h.l.length)∧pE w' al Fs.h.l.length Fs.h.l∧aj W w'∧aj w9 w'):=fun W hW=>(Hu _ P1 _ W (hst.vP.stay hW) pY.o.h.small).mono fun e w' ⟨al,h1,h2,h3⟩=>⟨al,h1,h2.zi,h3,then_ hW h3⟩;have HL2:Hid (∀W,aj w9 W->Calls prog 18 #[.pointer (some ⟨kt,0,none⟩)] W fun e w'=>∃al,e=.returned (.slice al Fs.h.l.length Fs.h.l.length)∧pE w' al Fs.h.l.length Fs.h.l∧aj W w'∧aj w9 w'):=fun W hW=>(Hu _ P2 _ W (hss.vP.stay hW) pY.o.h.small).mono fun e w' ⟨al,h1,h2,h3⟩=>⟨al,h1,h2.zi,h3,then_ hW h3⟩;have HSU:Hid (∀W al al2,pE W al Fs.h.l.length Fs.h.l->pE W al2 Fs.h.l.length Fs.h.l->aj w9 W->Calls prog 17 #[.slice al Fs.h.l.length Fs.h.l.length,.slice al2 Fs.h.l.length Fs.h.l.length] W fun e w'=>e=.returned (.bool true)∧aj w9 w'):=fun W al al2 h1 h2 hW=>(Mj _ al al2 _ _ W h1 h2 (by have:=pY.o.h.few;omega)).mono fun e w' ⟨g1,q,g2⟩=>⟨g1,by rw[g2];exact then_ hW (lJ W q)⟩;have HCc:Hid (∀W,aj w9 W->(W.cell? ⟨w3.heap.size,0,none⟩=some (.pointer (some ⟨gs1,0,none⟩))∧W.cell? ⟨w5.heap.size,0,none⟩=some (.pointer (some ⟨gs2,0,none⟩)))∧W.cell? ⟨gs1,0,none⟩=some (.pointer (some ⟨ks,0,none⟩))∧W.cell? ⟨gs2,0,none⟩=some (.pointer (some ⟨kt,0,none⟩))):=fun W hW=>⟨⟨(hW.cell (p:=⟨w3.heap.size,0,none⟩) yl).trans y2,(hW.cell (p:=⟨w5.heap.size,0,none⟩) zl).trans z2⟩,(hW.cell (p:=⟨gs1,0,none⟩) hst.lt).trans y0,(hW.cell (p:=⟨gs2,0,none⟩) hss.lt).trans z0⟩;have HB9:=H9 Xl;have XY:Hid (aj w9 w9.drew):=gQ _ _;clear hn7 hB7 Zz BA hG1 hB1 Xl hst hss oL hFp yl zl;generalize Fs.h.l.length=un at *;go_upto_region 21 with fail
           go_region_held3 (fun W=>(W.cell? ⟨w3.heap.size,0,none⟩=some (.pointer (some ⟨gs1,0,none⟩))∧W.cell? ⟨w5.heap.size,0,none⟩=some (.pointer (some ⟨gs2,0,none⟩)))∧W.cell? ⟨gs1,0,none⟩=some (.pointer (some ⟨ks,0,none⟩))∧W.cell? ⟨gs2,0,none⟩=some (.pointer (some ⟨kt,0,none⟩))) (go_keep) (first
            | (go_at_call 15;refine(HSB.o _ XY.o).mono ?_;rintro e v0 ⟨rfl,hw⟩;rw[hw];clear hw)
            | (go_at_call_of 18 ks;refine(uW.o _ XY.o).mono ?_;rintro e v1 ⟨al,rfl,hu1,hp1,hb1⟩;(try (have agA:=H9 (HUb.o.stay hp1);clear HUb;have HUb:=H9 agA.o;clear agA));have HUa:=H9 hu1;obtain⟨⟨d2,d3⟩,d0,d1⟩:=HCc.o v1 hb1;clear XY;have XY:=H9 hb1;clear hu1 hp1 hb1)
            | (go_at_call_of 18 kt;refine(HL2.o _ XY.o).mono ?_;rintro e v2 ⟨al2,rfl,hu2,hp2,hb2⟩;(try (have agB:=H9 (HUa.o.stay hp2);clear HUa;have HUa:=H9 agB.o;clear agB));have HUb:=H9 hu2;obtain⟨⟨d2,d3⟩,d0,d1⟩:=HCc.o v2 hb2;clear XY;have XY:=H9 hb2;clear hu2 hp2 hb2)
            | (go_at_call 17;refine(HSU.o _ _ _ HUa.o HUb.o XY.o).mono ?_;rintro e v3 ⟨rfl,hb3⟩;obtain⟨⟨d2,d3⟩,d0,d1⟩:=HCc.o v3 hb3;clear XY;have XY:=H9 hb3;clear hb3))
           all_goals
            go_wp2;go_ret;exact⟨by simp,then_ HB9.o XY.o⟩
end Go.Proofs.YtjmndjmhjleabaaGreatDoor
/- Small texts, one behind the other: GaQ, GaR, GaT, GaU. -/
import Derived.Test.YtjmndjmhjleabaaGreatDoorAl
import Derived.Test.YtjmndjmhjleabaaGreatDoorAm
import Derived.Test.YtjmndjmhjleabaaGreatDoorPk49
import Derived.Lib.SlBytesConst
import Derived.Test.YtjmndjmhjleabaaGreatDoorPk27
import Derived.Test.YtjmndjmhjleabaaGreatDoorPk25
import Derived.Test.YtjmndjmhjleabaaGreatDoorPk10
import Derived.Test.YtjmndjmhjleabaaGreatDoorPk16
import Derived.Test.YtjmndjmhjleabaaGreatDoorRfReqs
set_option maxHeartbeats 8000000
set_option maxRecDepth 100000
open Go.Proofs.Tryz
namespace Go.Proofs.YtjmndjmhjleabaaGreatDoor
open Go.RowKit
def gbB:av:=[71,69,84,32,47,32,72,84,84,80,47,49,46,49,13,10,72,111,115,116,58,32,97,13,10,13,10]
def gbT:av:=[72,84,84,80,47,49,46,49,32,52,48,52,32,78,111,116,32,70,111,117,110,100,13,10,67,111,110,116,101,110,116,45,76,101,110,103,116,104,58,32,48,13,10,13,10]
theorem aai:Rq.outs Rq.start gbB=[.head ⟨[71,69,84],[47],1,[([72,111,115,116],[97])],0⟩,.fin]:=by rfl
theorem aaj:Gt.textOf (404,[],[])=gbT:=by decide +kernel
theorem aak:Gt.feed Tu.iG Sr.new Gt.qD gbB=(Sr.new,⟨Rq.fold Rq.start gbB,Rq.hd0,[]⟩,gbT):=by
 unfold Gt.feed Gt.DY;rw[show Gt.qD.rq=Rq.start from rfl,aai];rw[<-aaj];rfl
theorem aal:Rq.busy (Rq.fold Rq.start gbB)=false:=by rfl
theorem ac3 (W:World):iH (W.alloc (.cells #[.int .u8 71,.int .u8 69,.int .u8 84,.int .u8 32,.int .u8 47,.int .u8 32,.int .u8 72,.int .u8 84,.int .u8 84,.int .u8 80,.int .u8 47,.int .u8 49,.int .u8 46,.int .u8 49,.int .u8 13,.int .u8 10,.int .u8 72,.int .u8 111,.int .u8 115,.int .u8 116,.int .u8 58,.int .u8 32,.int .u8 97,.int .u8 13,.int .u8 10,.int .u8 13,.int .u8 10] 5 (27,28))) (some ⟨W.heap.size,0,none⟩) 27 gbB:=by
 have h:=jo.made W #[.int .u8 71,.int .u8 69,.int .u8 84,.int .u8 32,.int .u8 47,.int .u8 32,.int .u8 72,.int .u8 84,.int .u8 84,.int .u8 80,.int .u8 47,.int .u8 49,.int .u8 46,.int .u8 49,.int .u8 13,.int .u8 10,.int .u8 72,.int .u8 111,.int .u8 115,.int .u8 116,.int .u8 58,.int .u8 32,.int .u8 97,.int .u8 13,.int .u8 10,.int .u8 13,.int .u8 10] 27 5 (27,28);refine⟨aM _,(fun e=>by cases e),fun j hj=>⟨_,rfl,?_⟩⟩;refine h.cell ?_;exact lS gbB j hj
theorem Gl (w:World)(hP:nA w):
 Calls prog 6 #[] w fun e w'=>e=.returned (.bool true)∧aj w w':=by
 have HP:=H9 hP;have kc:=fun(w:World) (C:Array Value) (n c:Nat)=>Lib.run_convert_bytes_const (P:=prog) w 31 5 C n c underlying31 underlying5;clear hP;go_enter func6,ntmps6;go_wp2_with fail
 refine(Bd w).mono ?_;rintro e w1 ⟨gs,rfl,hS1,hb1⟩;have HN:=H9 (FC hS1);have HB1:=H9 hb1;clear hS1 hb1;go_wp2_with fail
 refine HN.o.mono ?_;rintro e w2 ⟨rfl,hG2,jV⟩;have hz1:=HB1.o.size;have hb2:aj w w2:=HB1.o.trans (jV.below (fun k e=>e) hz1);have aft:jC w2 (fun k=>w.heap.size<=k∧k<w2.heap.size) w1.heap.size gs Sr.new (fun _=>Gt.qD):=hG2.mono (fun k hk e=>⟨by
  rcases e with e | e
  . exact e
  . omega,hk⟩)
 have jq:=(fJ _ w2).alloc (aM _) (.cells #[.int .u8 71,.int .u8 69,.int .u8 84,.int .u8 32,.int .u8 47,.int .u8 32,.int .u8 72,.int .u8 84,.int .u8 84,.int .u8 80,.int .u8 47,.int .u8 49,.int .u8 46,.int .u8 49,.int .u8 13,.int .u8 10,.int .u8 72,.int .u8 111,.int .u8 115,.int .u8 116,.int .u8 58,.int .u8 32,.int .u8 97,.int .u8 13,.int .u8 10,.int .u8 13,.int .u8 10] 5 (27,28));have HFe:Hid (Calls prog 13 #[.pointer (some ⟨w1.heap.size,0,none⟩),.int .i64 0,.slice (some ⟨w2.heap.size,0,none⟩) 27 27] (w2.alloc (.cells #[.int .u8 71,.int .u8 69,.int .u8 84,.int .u8 32,.int .u8 47,.int .u8 32,.int .u8 72,.int .u8 84,.int .u8 84,.int .u8 80,.int .u8 47,.int .u8 49,.int .u8 46,.int .u8 49,.int .u8 13,.int .u8 10,.int .u8 72,.int .u8 111,.int .u8 115,.int .u8 116,.int .u8 58,.int .u8 32,.int .u8 97,.int .u8 13,.int .u8 10,.int .u8 13,.int .u8 10] 5 (27,28))) fun e w'=>Q6 (fun k=>w.heap.size<=k∧k<w2.heap.size) (w2.alloc (.cells #[.int .u8 71,.int .u8 69,.int .u8 84,.int .u8 32,.int .u8 47,.int .u8 32,.int .u8 72,.int .u8 84,.int .u8 84,.int .u8 80,.int .u8 47,.int .u8 49,.int .u8 46,.int .u8 49,.int .u8 13,.int .u8 10,.int .u8 72,.int .u8 111,.int .u8 115,.int .u8 116,.int .u8 58,.int .u8 32,.int .u8 97,.int .u8 13,.int .u8 10,.int .u8 13,.int .u8 10] 5 (27,28))) w1.heap.size gs (fun _=>Gt.qD) 0 (Sr.new,⟨Rq.fold Rq.start gbB,Rq.hd0,[]⟩,gbT) 0 e w'):=by
  have:=Bq (w:=w2.alloc (.cells #[.int .u8 71,.int .u8 69,.int .u8 84,.int .u8 32,.int .u8 47,.int .u8 32,.int .u8 72,.int .u8 84,.int .u8 84,.int .u8 80,.int .u8 47,.int .u8 49,.int .u8 46,.int .u8 49,.int .u8 13,.int .u8 10,.int .u8 72,.int .u8 111,.int .u8 115,.int .u8 116,.int .u8 58,.int .u8 32,.int .u8 97,.int .u8 13,.int .u8 10,.int .u8 13,.int .u8 10] 5 (27,28))) HP.o (then_ hb2 jq) (fun i e=>e.1) (aft.stay jq) Sr.Ok.new 0 (by decide) Gt.yh.new gbB (ac3 w2) (fun _ a e=>by injection e with e;subst e;exact fun x=>absurd x.2 (Nat.lt_irrefl _)) rfl (by decide);rw[aak] at this;exact this
 have HB3:=H9 (then_ hb2 jq);have hz2:w.heap.size<=w2.heap.size:=hb2.size;have HZ2:=H9 hz2;clear hG2 jV hb2 aft jq HN hz1 hz2;go_wp2_with fail
 refine HFe.o.mono ?_;rintro e w3 ⟨⟨ao,cap,n,rfl,hn,hI⟩,hG3,pF⟩;have hn45:n=45:=hn;subst hn45;obtain⟨bb,oo,rfl,_⟩:=hI.lit (by decide);have hcp:=hI.1;have an3:(45:Nat)<=cap:=hcp;have hb3:aj w w3:=HB3.o.trans (pF.below (fun k e=>e.1) HB3.o.size);have hcut:=hI.cut (gW:=some ⟨bb,oo+9,none⟩) 9 12 (by decide) (by decide) (fun _=>rfl);have hcv:=hcut.str (P:=prog) 31 9 5 underlying31 underlying5 underlying9;replace hcv:(convert 31 9 (.slice (some ⟨bb,oo+9,none⟩) 3 (cap-9))).run prog w3=.ok (.string ⟨#[52,48,52]⟩) w3:=hcv;have HRa:=H9 (fun W=>MK (g:=w1.heap.size) 4 (Or.inr (by decide)) none 0 0 W);have HBu:Hid (Calls prog 20 #[.pointer (some ⟨w1.heap.size,0,none⟩),.int .i64 0] w3 fun e w'=>e=.returned (.bool false)∧w'=w3):=by
  have:=Ut hG3 0 (by decide);rw[iQ,show(Rq.busy (Gt.Cn.rq ⟨Rq.fold Rq.start gbB,Rq.hd0,[]⟩))=false from aal] at this;exact this
 have HGo:Hid (Calls prog 11 #[.pointer (some ⟨w1.heap.size,0,none⟩),.int .i64 0] w3 fun e w'=>e=.returned (.int .i64 0)∧aj w w'):=by
  refine(PK hG3 0 (by decide) (by rw[iQ]) (by rw[iQ];decide)).mono (fun e w' ⟨h1,h2⟩=>⟨h1,hb3.trans (h2.below (fun k e=>?_) hb3.size)⟩);rcases e with e | e
  . exact e.1
  . exact dG HB3.o.size e
 have als:(12:Int)<=(cap:Int):=by omega
 clear hI hG3 pF hb3 hcut hcp hn;go_wp2_with fail
 refine(HRa.o _).mono ?_;rintro e w4 ⟨rfl,hw⟩;rw[hw];clear hw;go_wp2_with fail
 refine HBu.o.mono ?_;rintro e w4 ⟨rfl,hw⟩;rw[hw];clear hw;go_wp2_with fail
 refine HGo.o.mono ?_;rintro e w5 ⟨rfl,hb5⟩;have qY:=H9 hb5;clear hb5;go_wp2;go_ret;exact⟨rfl,qY.o⟩
section
variable {w6 wr w':World} {P1 P2:Nat->Prop} {g gs:Nat} {s:Sr.Sh} {c:Nat->Gt.Cn} {ao:ak} {cap:Nat} {out:av}
structure Ak (P1:Nat->Prop)(w6:World)(g gs:Nat)(s:Sr.Sh)(c:Nat->Gt.Cn)(ao:ak)(cap:Nat)(out:av)(wr:World):Prop where
 two:∃A L,jC wr A g gs s c∧gZ wr L 5 ao cap out∧(∀k,A k->¬L k)∧(∀k,A k->P1 k∨w6.heap.size<=k)∧∀k,L k->w6.heap.size<=k
 turns:Turns P1 w6 wr
theorem Ak.start (h:jC w6 P1 g gs s c):Ak P1 w6 g gs s c none 0 [] w6:=⟨⟨P1,fun _=>False,h,gZ.nil _ _ _,fun _ _ e=>e,fun _ e=>Or.inl e,fun _ e=>e.elim⟩,Turns.refl _ _⟩
theorem Ak.feed {w0:World}(h:Ak P1 w6 g gs s c ao cap out wr)(hP:nA w0)(hW:aj w0 w6)(hF:∀i,P1 i->w0.heap.size<=i)(ok:Sr.Ok s)(k:Nat)(hk:k<4)(hc:Gt.yh (c k))(l:av){bo:ak}{gK n:Nat}(hB:iH w6 bo gK l)(rD:l≠[]->∀a,bo=some a->¬P1 a.block)(hn:l.length=n)(hl:(c k).body.length+n<=20000):
 Calls prog 13 #[.pointer (some ⟨g,0,none⟩),.int .i64 (k:Int),.slice bo n gK] wr fun e w'=>∃(CF:ak) (cap5 n5:Nat) (L:Nat->Prop),e=.returned (.tuple #[.slice CF n5 cap5,.int .i64 (if (c k).rq.ph=4 then 18 else 0)])∧n5=(Gt.feed Tu.iG s (c k) l).2.2.length∧iH w' CF cap5 (Gt.feed Tu.iG s (c k) l).2.2∧gZ w' L 5 ao cap out∧Ak P1 w6 g gs (Gt.feed Tu.iG s (c k) l).1 (upd c k (Gt.feed Tu.iG s (c k) l).2.1) ao cap out w' ∧
  ∀MJ cap6 w'',gZ w'' (fun i=>jN out ao=some i∨w'.heap.size<=i) 5 MJ cap6 (out++(Gt.feed Tu.iG s (c k) l).2.2)->Turns (fun i=>jN out ao=some i) w' w''->Ak P1 w6 g gs (Gt.feed Tu.iG s (c k) l).1 (upd c k (Gt.feed Tu.iG s (c k) l).2.1) MJ cap6 (out++(Gt.feed Tu.iG s (c k) l).2.2) w'':=by
 obtain⟨⟨A,L,h1,h2,h3,h4,h5⟩,hT⟩:=h;have hz:=hT.size;have hlt:l≠[]->∀a,bo=some a->a.block<w6.heap.size:=fun hne a e=>by
  subst e;have hp:0<l.length:=fE.2 hne;have:=gq w6 _ (hB.cell 0 hp);rwa[add_block] at this
 have hBr:iH wr bo gK l:=by
  by_cases hne:l=[]
  . subst hne;exact iH.empty wr hB
  . exact hB.turns hT (fun a e=>rD hne a e)
 refine(Bq hP (hW.trans (hT.below hF hW.size)) (S:=fun k=>A k∧k<wr.heap.size) (fun i e=>?_) (h1.mono (fun k hk e=>⟨e,hk⟩)) ok k hk hc l hBr (fun hne a e e2=>?_) hn hl).mono ?_
 . rcases h4 i e.1 with e | e
   . exact hF i e
   . exact dG hW.size e
 . rcases h4 _ e2.1 with e3 | e3
   . exact rD hne a e e3
   . have:=hlt hne a e;omega
 . rintro e w5 ⟨⟨CF,cap5,n5,he,U2,A9⟩,Lv,xQ⟩;have hz5:=xQ.size;have hL5:gZ w5 (fun k=>L k∧k<wr.heap.size) 5 ao cap out:=(h2.mono (fun k hk e=>⟨e,hk⟩)).turns xQ (fun k e e2=>h3 k e2.1 e.1);have qZ:Turns P1 w6 w5:=hT.trans xQ (fun k e hk=>by
    rcases h4 k e.1 with e | e
    . exact e
    . omega)
   have hA:∀k,gN (fun k=>A k∧k<wr.heap.size) wr k->P1 k∨w6.heap.size<=k:=fun k e=>by
    rcases e with e | e
    . exact h4 k e.1
    . exact Or.inr (by omega)
   have hd:∀k,gN (fun k=>A k∧k<wr.heap.size) wr k->¬(L k∧k<wr.heap.size):=fun k e e2=>by
    rcases e with e | e
    . exact h3 k e.1 e2.1
    . have:=e2.2;omega
   have hin:∀i,jN out ao=some i->L i∧i<wr.heap.size:=fun i e=>by
    unfold jN at e;split at e
    . cases e
    . rename_i hne;rcases hL5 with ⟨_,_,q⟩ | ⟨q,_⟩
      . cases rD:ao with
        | none=>rw[rD] at e;cases e
        | some a=>rw[rD] at e;injection e with e;rw[<-e];exact q a rD
      . exact absurd q hne
   refine⟨CF,cap5,n5,_,he,U2,A9,hL5,⟨⟨_,_,Lv,hL5,hd,hA,fun k e=>h5 k e.1⟩,qZ⟩,fun MJ cap6 w7 ZV Cb=>⟨⟨fun k=>gN (fun k=>A k∧k<wr.heap.size) wr k∧k<w5.heap.size,_,(Lv.mono (fun k hk e=>⟨e,hk⟩)).turns Cb (fun k e e2=>hd k e.1 (hin k e2)),ZV,fun k e e2=>?_,fun k e=>hA k e.1,fun k e=>?_⟩,qZ.trans Cb (fun k e hk=>?_)⟩⟩
   . rcases e2 with e2 | e2
     . exact hd k e.1 (hin k e2)
     . have:=e.2;omega
   . rcases e with e | e
     . exact h5 k (hin k e).1
     . omega
   . have:=h5 k (hin k e).1;omega
theorem Ak.aside (h:Ak P1 w6 g gs s c ao cap out wr){T:Nat->Prop}(ht:Turns T wr w')(hT:∀k,T k->k<w6.heap.size∧¬P1 k):∃A,jC w' A g gs s c∧iH w' ao cap out:=by
 obtain⟨⟨A,L,h1,h2,h3,h4,h5⟩,_⟩:=h;refine⟨A,h1.turns ht (fun k e e2=>?_),(h2.turns ht (fun k e e2=>?_)).xg⟩
 . rcases h4 k e with e3 | e3
   . exact(hT k e2).2 e3
   . have:=(hT k e2).1;omega
 . have:=h5 k e;have:=(hT k e2).1;omega
end
theorem yH.cell_ {w:World}{bo:ak}{l:av}{b o cap:Nat}{ps:List Pc}{w4 wr:World}{P:Nat->Prop}(h:yH w bo l l.length (some ⟨b,o,none⟩) cap ps w4)(hT:Turns P w4 wr)(hP:∀k,P k->k<w.heap.size)(i:Nat)(hi:i<ps.length):wr.cell? ⟨b,o+i,none⟩=some (.slice ps[i].ao ps[i].l.length ps[i].cap):=by
 have hv:=h.own.nQ.turns hT (fun a e=>by
  have hb:=(h.own.block a e).1;intro k;have:=hP _ k;omega)
 have hc:=hv.cell (j:=i) (u:=ps[i].v) (by unfold pcV;rw[dB,dD hi];rfl);rw[gI] at hc;exact hc
/-! ### plain: pieces, one behind the other -/
theorem Gt.PO (s:Sr.Sh)(c:Gt.Cn)(ps:List (av))(i:Nat)(hi:i<ps.length):Gt.feeds Tu.iG s c (ps.take (i+1))=((Gt.feed Tu.iG (Gt.feeds Tu.iG s c (ps.take i)).1 (Gt.feeds Tu.iG s c (ps.take i)).2.1 ps[i]).1,(Gt.feed Tu.iG (Gt.feeds Tu.iG s c (ps.take i)).1 (Gt.feeds Tu.iG s c (ps.take i)).2.1 ps[i]).2.1,(Gt.feeds Tu.iG s c (ps.take i)).2.2++(Gt.feed Tu.iG (Gt.feeds Tu.iG s c (ps.take i)).1 (Gt.feeds Tu.iG s c (ps.take i)).2.1 ps[i]).2.2):=by
 rw[Gt.rP,Gt.rP,bO hi,dA,Gt.BL];simp
theorem Gt.X7 {s:Sr.Sh}(ok:Sr.Ok s){c:Gt.Cn}(hc:Gt.yh c)(ps:List (av)):Sr.Ok (Gt.feeds Tu.iG s c ps).1∧Gt.yh (Gt.feeds Tu.iG s c ps).2.1∧(Gt.feeds Tu.iG s c ps).2.1.body.length<=c.body.length+ps.flatten.length∧(Gt.feeds Tu.iG s c ps).2.2.length<=6000*(2*ps.flatten.length):=by
 rw[Gt.rP];refine⟨Gt.Y3 Tu.iG abm ok c _,Gt.Qx Tu.iG hc s _,Gt.Ih Tu.iG s c _,?_⟩;have h1:=Gt.wJ (Rq.outs c.rq ps.flatten) (g:=Gt.at_ s c) ok;have h2:=(Rq.nI ps.flatten c.rq).1;have h3:(Gt.at_ s c).out.length=0:=rfl;show(Gt.evs Tu.iG (Gt.at_ s c) (Rq.outs c.rq ps.flatten)).out.length<=_;omega
theorem IW (ps:List (av))(i:Nat):(ps.take i).flatten.length<=ps.flatten.length:=by
 conv=>rhs;rw[<-bX i ps,dA,aW]
 omega
theorem Q7 (ps:List (av))(i:Nat)(hi:i<ps.length):(ps.take i).flatten.length+ps[i].length<=ps.flatten.length:=by
 have:=IW ps (i+1);rw[bO hi,dA,aW] at this;simpa using this
theorem Gt.quiet_of (l:av)(h:∀i (hi:i<(Rq.of l).1.length),(Rq.of l).1[i].d.kind≠3):Gt.Quiet (Rq.outs Rq.start l):=by
 refine Gt.uM _ ?_;rw[(Rq.of_run l).ev];intro e he heq;obtain⟨i,hi,rfl⟩:=List.getElem_of_mem he;exact h i hi (by rw[heq];rfl)
theorem Gt.Yj (ys:List (av))(h:Gt.Quiet (Rq.outs Rq.start ys.flatten))(i:Nat)(hi:i<ys.length):Gt.Quiet (Rq.outs (Rq.fold Rq.start (ys.take i).flatten) ys[i]):=by
 have e:ys.flatten=(ys.take (i+1)).flatten++(ys.drop (i+1)).flatten:=by rw[<-dA,bX]
 rw[e,Rq.jF] at h;have h1:=h.left;rw[bO hi,dA,Rq.jF] at h1;have h2:=h1.right;simpa using h2
structure YD (ys:List (av))(i:Nat)(d:Gt.Cn):Prop where
 ok:Gt.yh d
 rq:d.rq=Rq.fold Rq.start (ys.take i).flatten
 few:d.body.length<=(ys.take i).flatten.length
theorem YD.start (ys:List (av)):YD ys 0 Gt.qD:=⟨Gt.yh.new,rfl,aA _⟩
theorem YD.next {ys:List (av)}{i:Nat}{d:Gt.Cn}(h:YD ys i d)(hi:i<ys.length)(s:Sr.Sh):YD ys (i+1) (Gt.feed Tu.iG s d ys[i]).2.1:=by
 refine⟨Gt.Qx Tu.iG h.ok s _,?_,?_⟩
 . rw[bO hi,dA,Rq.jM,<-h.rq];show Rq.fold d.rq ys[i]=_;simp
 . rw[bO hi,dA,aW];have h1:=Gt.Ih Tu.iG s d ys[i];have h2:=h.few;have h3:[ys[i]].flatten.length=ys[i].length:=by simp
   omega
theorem YD.quiet {ys:List (av)}{i:Nat}{d:Gt.Cn}(h:YD ys i d)(hi:i<ys.length)(hq:Gt.Quiet (Rq.outs Rq.start ys.flatten))(s:Sr.Sh):(Gt.feed Tu.iG s d ys[i]).1=s :=
 Gt.NG Tu.iG s d _ (by rw[h.rq];exact Gt.Yj ys hq i hi)
theorem jC.cell {w:World}{S:Nat->Prop}{g gs:Nat}{s:Sr.Sh}{c:Nat->Gt.Cn}(h:jC w S g gs s c):w.cell? ⟨g,0,none⟩=some (.pointer (some ⟨gs,0,none⟩)):=by
 obtain⟨κ,x,hH,hS⟩:=h;exact(hH .row).1.store
theorem UD {α:Type}(f:Nat->α)(a b c:α):upd (upd (upd f 0 a) 1 b) 0 c=upd (upd f 0 c) 1 b:=by
 funext j;unfold upd;split
 . rename_i h;subst h;rfl
 . rfl
theorem iH.older {w:World}{bo:ak}{cap:Nat}{l:av}(h:iH w bo cap l)(hne:l≠[])(a:Addr)(e:bo=Option.some a):a.block<w.heap.size:=by
 have hp:0<l.length:=fE.2 hne;rw[e] at h;have:=gq w _ (h.cell 0 hp);rwa[add_block] at this
theorem Gu (w:World)(hP:nA w)(l ol:av)(bo oo co:ak)(gK n aax m PL nc:Nat)(cs:List Int)(hB:iH w bo gK l)(hn:l.length=n)(hO:iH w oo aax ol)(hm:ol.length=m)(hs:n+m<9223372036854775808)(hC:jo w co PL nc (cs.map fun c=>Value.int .i64 c))(hnc:cs.length=nc):
 Calls prog 5 #[.slice bo n gK,.slice oo m aax,.slice co nc PL] w fun e w'=>e=.returned (.bool true)∧aj w w':=by
 have HB:=H9 hB;have HC:=H9 hC;have HNc:=H9 hnc;have HN:=H9 hn;have HP:=H9 hP;have HO:=H9 hO;have HM0:=H9 hm
 have HBg:=H9 (Gl w hP);clear hB hC hP hO;go_enter func5,ntmps5;go_wp2_with fail
 refine HBg.o.mono ?_;rintro e w1 ⟨rfl,h1⟩;have H1:=H9 h1;clear h1 hnc hn hm HBg;by_cases hbig:9000<n+m
 . have t:decide ((n:Int)+m > 9000)=true:=aI (by omega);go_wp2;go_ret;exact⟨rfl,H1.o⟩
 . have t:decide ((n:Int)+m > 9000)=false:=aJ (by omega);by_cases aow:40<nc
   . have t2:decide ((nc:Int) > 40)=true:=aI (by omega);go_wp2;go_ret;exact⟨rfl,H1.o⟩
   . have t2:decide ((nc:Int) > 40)=false:=aJ (by omega);have hOl:m<=20000:=by omega
     have HRq:=H9 (J5 ol oo aax w1 (HO.o.stay H1.o) (by rw[HM0.o];exact hOl));rw[HM0.o] at HRq;go_wp2_with fail
     refine HRq.o.mono ?_;rintro e w2 ⟨a2,c2,rfl,hE,hb2⟩;have HE:=H9 hE;have HB2:=H9 (then_ H1.o hb2)
     obtain⟨es,hes⟩:∃es,(Rq.of ol).1=es:=⟨_,rfl⟩;have HQ0:Hid ((∀i (hi:i<es.length),es[i].d.kind≠3)->Gt.Quiet (Rq.outs Rq.start ol)):=by subst hes;exact Gt.quiet_of ol
     have hlen:es.length<=9223372036854775000:=by
      have h1:=(Rq.of_run ol).ev;have h2:=(Rq.nI ol Rq.start).1;have h3:=Rq.join_length (Rq.outs Rq.start ol);rw[h1,hes] at h3;rw[HM0.o] at h2;omega
     rw[hes] at HE;rw[hes];generalize (Rq.of ol).2=bsy;clear hE hb2 hes HRq t t2 H1;go_wp2;go_loopw [9] (fun vi wr=>∃i:Nat,i<=es.length∧vi=.int .i64 i∧wr=w2∧∀j (hj:j<es.length),j<i->es[j].d.kind≠3) (fun vi _=>es.length-(intOf vi).toNat)
     case atStart=>exact⟨0,aA _,rfl,rfl,fun j _ h=>absurd h (bZ _)⟩
     case round =>
      obtain⟨i,hi,rfl,hw,hK⟩:=hrel;have HK:=H9 hK;subst hw;clear hK;by_cases hlt:i<es.length
      . obtain⟨b,o,rfl,hcs⟩:=HE.o.lit (by rw[aF];omega);obtain⟨s,hev⟩:=hcs i (by rw[aF];exact hlt);rw[aG] at hev;have c0:wr.cell? ⟨b,o+i*12,none⟩=some (.int .i64 es[i].d.kind):=hev.at_ 0 _ rfl;have hcp:=HE.o.1;rw[aF] at hcp;have hlt':(i:Int)<es.length:=by omega
        clear hcs hev;by_cases hk:es[i].d.kind=3
        . have tk:(es[i].d.kind==3)=true:=by rw[aT];exact hk
          generalize es[i].d.kind=kd at *;go_wp2;go_ret;exact⟨rfl,HB2.o⟩
        . have tk:(es[i].d.kind==3)=false:=by rw[aS];exact hk
          have Yr:Hid (∀j (hj:j<es.length),j<i+1->es[j].d.kind≠3):=fun j hj h=>by
           rcases aU j i with h1 | h1
           . exact HK.o j hj h1
           . obtain rfl:j=i:=by omega
             exact hk
          generalize es[i].d.kind=kd at *;go_wp2;go_roundw
          case rel=>exact⟨i+1,by omega,by go_num,by first | rfl | trivial,Yr.o⟩
          case measure=>simp[intOf];omega
      . obtain rfl:i=es.length:=by omega
        have HQt:=H9 (HQ0.o (fun j hj=>HK.o j hj hj));have hlt':¬((es.length:Nat):Int)<(es.length:Nat):=by omega
        generalize wr=w2 at *;clear HK HQ0 HE hlen;go_wp2_with fail
        refine(Bd w2).mono ?_;rintro e w3 ⟨gs1,rfl,hS1,hb3⟩;have Zw:=H9 (FC hS1);have HB3:=H9 hb3;clear hS1 hb3;go_wp2_with fail
        refine Zw.o.mono ?_;rintro e w4 ⟨rfl,hG1,EU⟩;have z3:=HB3.o.size;have z4:=EU.size
        have agL:=hG1.mono (S':=fun i=>w2.heap.size<=i∧i<w4.heap.size) (fun i hi e=>⟨by
         rcases e with e | e
         . exact e
         . omega,hi⟩)
        have UO:=H9 agL;have jK:=H9 (HB3.o.trans (EU.below (B:=w2.heap.size) (fun i e=>e) z3));clear hG1 agL EU Zw;go_wp2_with fail
        refine(Bd w4).mono ?_;rintro e w5 ⟨gs2,rfl,hS2,hb5⟩;have MZ:=H9 (FC hS2);have z5:=hb5.size;have agM:=H9 (UO.o.stay hb5);have qY:=H9 hb5;clear hS2 hb5 UO;go_wp2_with fail
        refine MZ.o.mono ?_;rintro e w6 ⟨rfl,hG2,qZ⟩;have z6:=qZ.size;have UO:=H9 (agM.o.turns qZ (fun i e e2=>by omega));have HG2:=H9 (hG2.mono (S':=fun i=>w4.heap.size<=i∧i<w6.heap.size) (fun i hi e=>⟨by
         rcases e with e | e
         . exact e
         . omega,hi⟩))
        have hb6:aj w2 w6:=jK.o.trans ((qY.o.trans (qZ.below (B:=w4.heap.size) (fun i e=>e) z5)).mono (by omega));have aay:aj w w6:=then_ HB2.o hb6;have HPc:=H9 (FE w6 l bo co gK n PL nc cs (HB.o.stay aay) HN.o (by omega) (HC.o.stay aay) HNc.o (by omega));have vP:=H9 aay;have HZ:Hid (w.heap.size<=w2.heap.size∧w2.heap.size<=w3.heap.size∧w3.heap.size<=w4.heap.size∧w4.heap.size<=w5.heap.size∧w5.heap.size<=w6.heap.size):=⟨HB2.o.size,z3,z4,z5,z6⟩;clear hb6 aay hG2 qZ MZ HB3 jK qY agM z3 z4 z5 z6;go_wp2_with fail
        refine HPc.o.mono ?_;rintro e w7 ⟨ps,ao,cap,rfl,hPr,hpl⟩;have hp0:0<ps.length:=by omega
        have hps:ps.length<=41:=by omega
        have ZO:=H9 hpl;clear hpl;obtain⟨rb,ro,rfl,_⟩:=hPr.own.nQ.lit (by rw[FD];exact hp0);have Mk:=H9 hPr;have IL:=H9 (then_ vP.o hPr.below);have HPd:=H9 (FE w7 ol oo co aax m PL nc cs (HO.o.stay IL.o) HM0.o (by omega) (HC.o.stay IL.o) HNc.o (by omega));clear hPr HPc;go_wp2_with fail
        refine HPd.o.mono ?_;rintro e w8 ⟨qs,jy,cap2,rfl,hQr,hql⟩;have hqp:qs.length=ps.length:=by rw[hql,ZO.o]
        clear hql;obtain⟨qb,qo,rfl,_⟩:=hQr.own.nQ.lit (by rw[FD,hqp];exact hp0);have hcap:=Mk.o.own.nQ.1;have aoz:=hQr.own.nQ.1;have h78:=hQr.below;have h68:aj w6 w8:=then_ Mk.o.below h78;have HLs:=H9 (Ak.start (UO.o.stay h68));have agO:=H9 (HG2.o.stay h68);have HQr:=H9 hQr;have HB8:=H9 (then_ IL.o h78);have HZ8:Hid (w6.heap.size<=w7.heap.size∧w7.heap.size<=w8.heap.size):=⟨Mk.o.below.size,h78.size⟩;have IJ:Hid ((ps.map Pc.l).flatten=l):=by unfold Hid;rw[Mk.o.flat,bP]
        have HFq:Hid ((qs.map Pc.l).flatten=ol):=by unfold Hid;rw[hQr.flat,bP]
        have HQy:Hid (Gt.Quiet (Rq.outs Rq.start (qs.map Pc.l).flatten)):=by unfold Hid;rw[HFq.o];exact HQt.o
        have HFk:Hid (∀i,Sr.Ok (Gt.feeds Tu.iG Sr.new Gt.qD ((ps.map Pc.l).take i)).1∧Gt.yh (Gt.feeds Tu.iG Sr.new Gt.qD ((ps.map Pc.l).take i)).2.1∧(Gt.feeds Tu.iG Sr.new Gt.qD ((ps.map Pc.l).take i)).2.1.body.length<=((ps.map Pc.l).take i).flatten.length∧(Gt.feeds Tu.iG Sr.new Gt.qD ((ps.map Pc.l).take i)).2.2.length<=6000*(2*((ps.map Pc.l).take i).flatten.length)):=fun i=>by
         have:=Gt.X7 Sr.Ok.new Gt.yh.new ((ps.map Pc.l).take i);refine⟨this.1,this.2.1,?_,this.2.2.2⟩;have h2:=this.2.2.1;have h3:Gt.qD.body.length=0:=rfl;omega
        obtain⟨j0,hj0,hy0,hy1,hy2⟩:=info_parts jO;have Hj:=H9 hj0;have M0:=H9 hy0;have M4:=H9 hy1;have M5:=H9 hy2
        have H68:=H9 h68;have H78:=H9 h78
        have HQp:=H9 hqp;clear hQr HPd hj0 hy0 hy1 hy2 UO HG2 h68 h78 hqp;have Ap:Hid (Ak (fun i=>w2.heap.size<=i∧i<w4.heap.size) w8 w3.heap.size gs1 (Gt.feeds Tu.iG Sr.new Gt.qD ((ps.map Pc.l).take 0)).1 (upd (upd (fun _=>Gt.qD) 0 (Gt.feeds Tu.iG Sr.new Gt.qD ((ps.map Pc.l).take 0)).2.1) 1 Gt.qD) none 0 (Gt.feeds Tu.iG Sr.new Gt.qD ((ps.map Pc.l).take 0)).2.2 w8):=by
         have h0:=HLs.o;have e1:upd (fun _=>Gt.qD) 0 Gt.qD=fun _=>Gt.qD:=upd_same (fun _=>Gt.qD) 0;have e2:upd (fun _=>Gt.qD) 1 Gt.qD=fun _=>Gt.qD:=upd_same (fun _=>Gt.qD) 1;unfold Hid;rw[List.take_zero];show Ak _ _ _ _ Sr.new (upd (upd (fun _=>Gt.qD) 0 Gt.qD) 1 Gt.qD) none 0 [] _;rw[e1,e2];exact h0
        clear HLs;go_wp2;go_loopw [14,15] (fun va vi wr=>∃(i m:Nat) (gW:ak) (cap':Nat) (d:Gt.Cn),i<=ps.length∧vi=.int .i64 i∧va=.slice gW m cap'∧m=(Gt.feeds Tu.iG Sr.new Gt.qD ((ps.map Pc.l).take i)).2.2.length∧Ak (fun i=>w2.heap.size<=i∧i<w4.heap.size) w8 w3.heap.size gs1 (Gt.feeds Tu.iG Sr.new Gt.qD ((ps.map Pc.l).take i)).1 (upd (upd (fun _=>Gt.qD) 0 (Gt.feeds Tu.iG Sr.new Gt.qD ((ps.map Pc.l).take i)).2.1) 1 d) gW cap' (Gt.feeds Tu.iG Sr.new Gt.qD ((ps.map Pc.l).take i)).2.2 wr∧YD (qs.map Pc.l) i d) (fun _ vi _=>ps.length-(intOf vi).toNat)
        case atStart=>exact⟨0,0,none,0,Gt.qD,aA _,rfl,rfl,rfl,Ap.o,YD.start _⟩
        case round =>
         clear Ap;obtain⟨i,m',gW,cap',d,hi,rfl,rfl,hm,hR,hOt⟩:=hrel;have HR:=H9 hR;have HM:=H9 hm;have HOt:=H9 hOt
         clear hR hm hOt;by_cases hlt:i<ps.length
         . have hlt':(i:Int)<ps.length:=by omega
           have adb:i<qs.length:=by rw[HQp.o];exact hlt
           have amy:(i:Int)<qs.length:=by omega
           have ci:=Mk.o.cell_ ((Turns.of_below (S:=fun i=>w2.heap.size<=i∧i<w4.heap.size) H78.o).trans HR.o.turns (fun i e _=>e)) (fun j e=>by have:=HZ.o;omega) i hlt;have hpi:=Mk.o.all ps[i] (aC hlt);have hqi:=HQr.o.all qs[i] (aC adb);have HQc:Hid (∀W,Turns (fun i=>w2.heap.size<=i∧i<w4.heap.size) w8 W->W.cell? ⟨qb,qo+i,none⟩=some (.slice qs[i].ao qs[i].l.length qs[i].cap)):=fun W hW=>HQr.o.cell_ hW (fun j e=>by have:=HZ.o;have:=HZ8.o;omega) i adb;have hlm:i<(ps.map Pc.l).length:=by rw[aF];exact hlt
           have hlq:i<(qs.map Pc.l).length:=by rw[aF];exact adb
           have O3:=Gt.PO Sr.new Gt.qD (ps.map Pc.l) i hlm;have hfa:=Q7 (ps.map Pc.l) i hlm;have hfq:=Q7 (qs.map Pc.l) i hlq;have hfl:=bE List.length IJ.o;have agR:=bE List.length HFq.o;rw[HN.o] at hfl;rw[HM0.o] at agR;have hpl:(ps.map Pc.l)[i]=ps[i].l:=aG ..;have hql:(qs.map Pc.l)[i]=qs[i].l:=aG ..;rw[hpl] at O3 hfa;rw[hql] at hfq;obtain⟨fk1,fk2,fk3,fk4⟩:=HFk.o i;have fk5:=(HFk.o (i+1)).2.2.2;have fk6:=(HFk.o (i+1)).1;have hft:=IW (ps.map Pc.l) (i+1);have hpb:iH w8 ps[i].ao ps[i].cap ps[i].l:=hpi.is.stay H68.o;have hqb:iH w8 qs[i].ao qs[i].cap qs[i].l:=hqi.is.stay H78.o;have hpk:ps[i].l≠[]->∀a,ps[i].ao=some a->¬(w2.heap.size<=a.block∧a.block<w4.heap.size):=fun hne a e=>by
            obtain⟨a0,e0,e1⟩:=hpi.blk hne a e;have hl0:l≠[]:=fun h0=>by
             have hn0:n=0:=by rw[<-HN.o,h0];rfl
             have:ps[i].l.length=0:=by omega
             exact hne (dK.1 this)
            have:=HB.o.older hl0 a0 e0;have:=HZ.o;rw[e1];omega
           have hqk:qs[i].l≠[]->∀a,qs[i].ao=some a->¬(w2.heap.size<=a.block∧a.block<w4.heap.size):=fun hne a e=>by
            obtain⟨a0,e0,e1⟩:=hqi.blk hne a e;have hl0:ol≠[]:=fun h0=>by
             have hn0:m=0:=by rw[<-HM0.o,h0];rfl
             have:qs[i].l.length=0:=by omega
             exact hne (dK.1 this)
            have:=HO.o.older hl0 a0 e0;have:=HZ.o;rw[e1];omega
           have HOn:=H9 (fun s=>HOt.o.next hlq s);have HOq:=H9 (fun s=>HOt.o.quiet hlq HQy.o s);rw[hql] at HOn HOq;have hdb:=HOt.o.few;have hdo:=HOt.o.ok;generalize ps[i]=p at *;generalize qs[i]=q at *;obtain⟨np,hnp⟩:∃np,p.l.length=np:=⟨_,rfl⟩;obtain⟨nq,hnq⟩:∃nq,q.l.length=nq:=⟨_,rfl⟩;rw[hnp] at hfa ci;rw[hnq] at hfq HQc;have oW:=H9 (HR.o.feed (w0:=w) HP.o HB8.o (fun j e=>by have:=HZ.o;omega) fk1 0 (by decide) (by rw[upd_ne _ _ (by decide),iQ];exact fk2) p.l hpb hpk hnp (by rw[upd_ne _ _ (by decide),iQ];omega));rw[upd_ne _ _ (by decide),iQ,UD] at oW;generalize Gt.feeds Tu.iG Sr.new Gt.qD ((ps.map Pc.l).take i)=F at *;obtain⟨Fs,Fc,Fo⟩:=F;simp only at oW O3 HR HM fk4;rw[O3] at fk5 fk6;generalize hFp:Gt.feed Tu.iG Fs Fc p.l=Fp at *;obtain⟨Gs,Gc,Go_⟩:=Fp;simp only at oW O3 fk5 fk6;have tF:=H9 O3;have hsum:Fo.length+Go_.length<=200000000:=by rw[aW] at fk5;omega
           obtain⟨cd,hcd⟩:∃cd:Int,(if Fc.rq.ph=4 then (18:Int) else 0)=cd:=⟨_,rfl⟩;rw[hcd] at oW;have HFe:Hid (∀(MJ:ak) (cap6:Nat) (out:av) (W:World),Ak (fun i=>w2.heap.size<=i∧i<w4.heap.size) w8 w3.heap.size gs1 Gs (upd (upd (fun _=>Gt.qD) 0 Gc) 1 d) MJ cap6 out W->Calls prog 13 #[.pointer (some ⟨w3.heap.size,0,none⟩),.int .i64 1,.slice q.ao nq q.cap] W fun e w'=>∃(v:Value) (d2:Gt.Cn),e=.returned v∧Ak (fun i=>w2.heap.size<=i∧i<w4.heap.size) w8 w3.heap.size gs1 Gs (upd (upd (fun _=>Gt.qD) 0 Gc) 1 d2) MJ cap6 out w'∧YD (qs.map Pc.l) (i+1) d2):=by
            intro MJ cap6 out W hW;have:=hW.feed (w0:=w) HP.o HB8.o (fun j e=>by have:=HZ.o;omega) fk6 1 (by decide) (by rw[iQ];exact hdo) q.l hqb hqk hnq (by rw[iQ];omega);rw[iQ,qH,HOq.o Gs] at this;refine this.mono ?_;rintro e w' ⟨x1,x2,x3,x4,he,_,_,_,h5,_⟩;exact⟨_,_,he,h5,HOn.o Gs⟩
           clear hpi hqi O3 hfa hfq hfl agR hpl hql fk1 fk2 fk3 fk4 fk5 fk6 hft hpb hqb hpk hqk hFp hcd hlm hlq hnp hnq HOn HOq hdb hdo HR HOt;go_wp2_with fail
           refine oW.o.mono ?_;rintro e w9 ⟨CF,cap5,n5,L5,rfl,U2,A9,hL5,_,hfin⟩;have HN5:=H9 U2.symm;have HB9:=H9 A9;have HL5:=H9 hL5;have Oq:=H9 hfin;have U0:=H9 HM.o.symm
           have hml:m'+n5<=200000000:=by rw[U2,HM.o];exact hsum
           clear U2 A9 hL5 hfin oW hsum;go_wp2_with (at_builtin;refine nD rfl (.tmp 75) (.tmp 76) 31 rfl 5 j0 underlying31 Hj.o M0.o M4.o M5.o rfl rfl HL5.o U0.o HB9.o HN5.o (by omega) ?_;intro MJ cap6 Zr vI qZ;have HF6:=H9 (Oq.o MJ cap6 Zr vI qZ);have cq:=HQc.o Zr HF6.o.turns;clear vI qZ)
           refine(HFe.o _ _ _ _ HF6.o).mono ?_;rintro e w11 ⟨vf,d2,rfl,hR2,hO2⟩;have HR2:=H9 hR2;have BP:=H9 hO2
           clear hR2 hO2;go_wp2;go_roundw
           case rel=>exact⟨i+1,m'+n5,MJ,cap6,d2,by omega,by go_num,rfl,by rw[tF.o];show _=(Fo++Go_).length;rw[aW,HM.o,HN5.o],by rw[tF.o];exact HR2.o,BP.o⟩
           case measure=>simp[intOf];omega
         . obtain rfl:i=ps.length:=by omega
           have hlt2:¬((ps.length:Nat):Int)<(ps.length:Nat):=by omega
           have hfull:(ps.map Pc.l).take ps.length=ps.map Pc.l:=by rw[dO (by rw[aF];exact aM _)]
           have hR:=HR.o;have hm:=HM.o;obtain⟨fk1,fk2,fk3,fk4⟩:=HFk.o ps.length;rw[hfull,Gt.rP,IJ.o] at hR hm fk1;have qZ:=hR.turns;have agS:=agO.o.turns qZ (fun i e e2=>by have:=HZ.o;omega);have hbr:aj w wr:=HB8.o.trans (qZ.below (fun i e=>by have:=HZ.o;omega) HB8.o.size);have hBr:iH wr bo gK l:=by
            by_cases hne:l=[]
            . have:=HB.o;rw[hne] at this ⊢;exact iH.empty wr this
            . refine(HB.o.stay HB8.o).turns qZ (fun a e=>?_);have:=HB.o.older hne a e;have:=HZ.o;omega
           have oW:=H9 (Bq (w0:=w) HP.o hbr (fun i e=>by have:=HZ.o;omega) agS Sr.Ok.new 0 (by decide) Gt.yh.new l hBr (fun hne a e e2=>by
            have:=HB.o.older hne a e;have:=HZ.o;omega) HN.o (by show 0+n<=20000;omega))
           have HBr:=H9 hbr;have HR2:=H9 hR;have U0:=H9 hm;have qy:=H9 fk1
           clear hR hm fk1 fk2 fk3 fk4 agS hBr qZ hfull HFk HM HR agO hbr HOt;generalize hFp:Gt.feed Tu.iG Sr.new Gt.qD l=F at *;obtain⟨Fs,Fc,Fo⟩:=F;simp only at oW HR2 U0 qy;rw[show(if Gt.qD.rq.ph=4 then (18:Int) else 0)=0 from rfl] at oW;go_wp2_with fail
           refine oW.o.mono ?_;rintro e w9 ⟨⟨ao7,Jv,n7,rfl,hn7,hB7⟩,ZV,Cb⟩;obtain⟨A1,hG1,hB1⟩:=HR2.o.aside Cb (fun i e=>by have:=HZ.o;have:=HZ8.o;omega);have XG:aj w w9:=HBr.o.trans (Cb.below (fun i e=>by have:=HZ.o;omega) HBr.o.size);have HSB:=H9 (fun(W:World) (hW:aj w9 W)=>yI W gW ao7 cap' Jv m' n7 Fo Fo U0.o.symm hn7.symm (hB1.stay hW) (hB7.stay hW));rw[aI (rfl:Fo=Fo)] at HSB;have y2:=hG1.cell;have z2:=ZV.cell;have yl:=hG1.lt;have zl:=ZV.lt;obtain⟨ks,kl,kao,kca,P1,hst⟩:=hG1.jS;obtain⟨kt,jl,jao,jca,P2,hss⟩:=ZV.jS;obtain⟨⟨y0,_⟩,_⟩:=qm hst.row;obtain⟨⟨z0,_⟩,_⟩:=qm hss.row;have vL:Hid (∀W,aj w9 W->Calls prog 18 #[.pointer (some ⟨ks,0,none⟩)] W fun e w'=>∃al,e=.returned (.slice al Fs.h.l.length Fs.h.l.length)∧pW w' al Fs.h.l.length Fs.h.l∧aj W w'∧aj w9 w'):=fun W hW=>(Iy _ P1 _ W (hst.wG.stay hW) qy.o.h.small).mono fun e w' ⟨al,h1,h2,h3⟩=>⟨al,h1,h2.zL,h3,then_ hW h3⟩;have HL2:Hid (∀W,aj w9 W->Calls prog 18 #[.pointer (some ⟨kt,0,none⟩)] W fun e w'=>∃al,e=.returned (.slice al Fs.h.l.length Fs.h.l.length)∧pW w' al Fs.h.l.length Fs.h.l∧aj W w'∧aj w9 w'):=fun W hW=>(Iy _ P2 _ W (hss.wG.stay hW) qy.o.h.small).mono fun e w' ⟨al,h1,h2,h3⟩=>⟨al,h1,h2.zL,h3,then_ hW h3⟩;have HSU:Hid (∀W al al2,pW W al Fs.h.l.length Fs.h.l->pW W al2 Fs.h.l.length Fs.h.l->aj w9 W->Calls prog 17 #[.slice al Fs.h.l.length Fs.h.l.length,.slice al2 Fs.h.l.length Fs.h.l.length] W fun e w'=>e=.returned (.bool true)∧aj w9 w'):=fun W al al2 h1 h2 hW=>(MN _ al al2 _ _ W h1 h2 (by have:=qy.o.h.few;omega)).mono fun e w' ⟨g1,q,g2⟩=>⟨g1,by rw[g2];exact then_ hW (lN W q)⟩;have HCc:Hid (∀W,aj w9 W->(W.cell? ⟨w3.heap.size,0,none⟩=some (.pointer (some ⟨gs1,0,none⟩))∧W.cell? ⟨w5.heap.size,0,none⟩=some (.pointer (some ⟨gs2,0,none⟩)))∧W.cell? ⟨gs1,0,none⟩=some (.pointer (some ⟨ks,0,none⟩))∧W.cell? ⟨gs2,0,none⟩=some (.pointer (some ⟨kt,0,none⟩))):=fun W hW=>⟨⟨(hW.cell (p:=⟨w3.heap.size,0,none⟩) yl).trans y2,(hW.cell (p:=⟨w5.heap.size,0,none⟩) zl).trans z2⟩,(hW.cell (p:=⟨gs1,0,none⟩) hst.lt).trans y0,(hW.cell (p:=⟨gs2,0,none⟩) hss.lt).trans z0⟩;have HB9:=H9 XG;have Yk:Hid (aj w9 w9.drew):=gQ _ _;clear hn7 hB7 ZV Cb hG1 hB1 XG hst hss oW hFp yl zl;generalize Fs.h.l.length=un at *;go_upto_region 21 with fail
           go_region_held3 (fun W=>(W.cell? ⟨w3.heap.size,0,none⟩=some (.pointer (some ⟨gs1,0,none⟩))∧W.cell? ⟨w5.heap.size,0,none⟩=some (.pointer (some ⟨gs2,0,none⟩)))∧W.cell? ⟨gs1,0,none⟩=some (.pointer (some ⟨ks,0,none⟩))∧W.cell? ⟨gs2,0,none⟩=some (.pointer (some ⟨kt,0,none⟩))) (go_keep) (first
            | (go_at_call 15;refine(HSB.o _ Yk.o).mono ?_;rintro e v0 ⟨rfl,hw⟩;rw[hw];clear hw)
            | (go_at_call_of 18 ks;refine(vL.o _ Yk.o).mono ?_;rintro e v1 ⟨al,rfl,hu1,hp1,hb1⟩;(try (have agU:=H9 (HUb.o.stay hp1);clear HUb;have HUb:=H9 agU.o;clear agU));have HUa:=H9 hu1;obtain⟨⟨d2,d3⟩,d0,d1⟩:=HCc.o v1 hb1;clear Yk;have Yk:=H9 hb1;clear hu1 hp1 hb1)
            | (go_at_call_of 18 kt;refine(HL2.o _ Yk.o).mono ?_;rintro e v2 ⟨al2,rfl,hu2,hp2,hb2⟩;(try (have agV:=H9 (HUa.o.stay hp2);clear HUa;have HUa:=H9 agV.o;clear agV));have HUb:=H9 hu2;obtain⟨⟨d2,d3⟩,d0,d1⟩:=HCc.o v2 hb2;clear Yk;have Yk:=H9 hb2;clear hu2 hp2 hb2)
            | (go_at_call 17;refine(HSU.o _ _ _ HUa.o HUb.o Yk.o).mono ?_;rintro e v3 ⟨rfl,hb3⟩;obtain⟨⟨d2,d3⟩,d0,d1⟩:=HCc.o v3 hb3;clear Yk;have Yk:=H9 hb3;clear hb3))
           all_goals
            go_wp2;go_ret;exact⟨by simp,then_ HB9.o Yk.o⟩
end Go.Proofs.YtjmndjmhjleabaaGreatDoor
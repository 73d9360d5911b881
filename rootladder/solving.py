"""Pairs whose worth is told: 1, -1, or one whose square is less than the number."""

from rootladder.checks import check_any, check_between, check_number, check_root
from rootladder.errors import NoNumber
from rootladder.ladders import climb, ladder
from rootladder.pairs import times, worth
from rootladder.roots import is_square, whole_root

MOST_ONES = 20


def is_odd(number):
    """Tell whether number is odd."""
    return number & 1 == 1


def whole_turn(number):
    """Return the fractions of the ladder up to the first one with worth 1."""
    whole, quotients = ladder(number)
    # A round of odd length ends at worth -1: the worths come again only after two.
    rounds = 2 if is_odd(len(quotients)) else 1
    row = [whole] + quotients * rounds
    # The last quotient of a round belongs to the fraction behind its end.
    return climb(row[:-1])


def least_one(number):
    """Return the least pair with worth 1, both of its numbers above 0."""
    return whole_turn(number)[-1]


def least_less_one(number):
    """Return the least pair with worth -1, or None where there is none."""
    whole, quotients = ladder(number)
    if not is_odd(len(quotients)):
        return None
    row = [whole] + quotients
    return climb(row[:-1])[-1]


def ones(number, many=5):
    """Return the first so many pairs with worth 1, rising."""
    check_number(number)
    check_between(many, 0, MOST_ONES)
    check_root(number)
    least = least_one(number)
    pair = (1, 0)
    found = []
    for _ in range(many):
        pair = times(number, pair, least)
        found.append(pair)
    return found


def stretched(number, fraction, told):
    """Return the multiple of the fraction that has worth told, or None."""
    own = worth(number, fraction)
    # A multiple of a pair has the square of its factor times the pair's worth.
    if told % own != 0 or told // own < 0 or not is_square(told // own):
        return None
    by = whole_root(told // own)
    above, below = fraction
    return by * above, by * below


def reach(number, told):
    """Return the least pair with worth told, y above 0, or None where there is none."""
    check_number(number)
    check_any(told)
    check_root(number)
    if told == 0 or told * told >= number:
        raise NoNumber("a worth that is not 0 and whose square is less than the number is wanted")
    # The quotient behind a fraction is no less than what the fraction is stretched by here,
    # so the later fractions give no lesser y than the first one that can be stretched.
    for fraction in whole_turn(number):
        pair = stretched(number, fraction, told)
        if pair is not None:
            return pair
    return None
